/- Package blake: mix. -/
import Derived.Test.YtdjfklllfbenjaaDoorBa
import Derived.RegionTactic
import Derived.BigRegion
import Derived.Deep.RegionWith
import Derived.Deep.CutRange
import Derived.Deep.DeepCutAuto
import Derived.Deep.RegionHeld3
import Derived.Deep.RegionLaw
namespace Go.Proofs.YtdjfklllfbenjaaDoor
open Go.RowKit

theorem sets8 (v : List Int) {a b c d : Nat} (hab : a ≠ b) (hac : a ≠ c) (had : a ≠ d) (hbc : b ≠ c) (hbd : b ≠ d) (hcd : c ≠ d) (A1 D1 C1 B1 A2 D2 C2 B2 : Int) :
    (((((((v.set a A1).set d D1).set c C1).set b B1).set a A2).set d D2).set c C2).set b B2 = (((v.set a A2).set b B2).set c C2).set d D2 := by
  apply List.ext_getElem?
  intro j
  simp only [List.getElem?_set, List.length_set]
  by_cases ja : a = j
  · subst ja; simp [hab.symm, hac.symm, had.symm]
  by_cases jb : b = j
  · subst jb; simp [hbc.symm, hbd.symm]
  by_cases jc : c = j
  · subst jc; simp [hbc, hcd.symm]
  by_cases jd : d = j
  · subst jd; simp [hbd, hcd]
  simp [ja, jb, jc, jd]
theorem U32.at_at {w : World} {p : Nat} {T : TypeId} {vs : List Int} (h : U32 w p T vs) {k : Nat} {z : Int} (hk : k < vs.length) (hz : at_ vs k = z) : w.cell? ⟨p, k, none⟩ = some (.int .u32 z) := hz ▸ h.cell k hk
set_option maxRecDepth 100000 in
set_option maxHeartbeats 2000000 in
theorem mix_any {w : World} {p : Nat} {T : TypeId} {vs : List Int} (a b c d : Nat) (x y : Int) (h : U32 w p T vs) (hl : vs.length = 16)
    (ha : a < 16) (hb : b < 16) (hc : c < 16) (hd : d < 16) (hab : a ≠ b) (hac : a ≠ c) (had : a ≠ d) (hbc : b ≠ c) (hbd : b ≠ d) (hcd : c ≠ d) :
    Calls Tryd.prog 60 #[.pointer (some ⟨p, 0, none⟩), .int .i64 a, .int .i64 b, .int .i64 c, .int .i64 d, .int .u32 x, .int .u32 y] w fun e w' => e = .returned (.tuple #[]) ∧ U32 w' p T (mixL vs a b c d x y) ∧ But p w w' := by
  have HN := Lib.hid (sets8 vs hab hac had hbc hbd hcd)
  have HU0 := Lib.hid h
  have HB0 := Lib.hid (But.refl p w)
  have HL0 := Lib.hid hl
  obtain ⟨A0, Ea0⟩ : ∃ z, at_ vs a = z := ⟨_, rfl⟩
  obtain ⟨B0, Eb0⟩ : ∃ z, at_ vs b = z := ⟨_, rfl⟩
  obtain ⟨C0, Ec0⟩ : ∃ z, at_ vs c = z := ⟨_, rfl⟩
  obtain ⟨D0, Ed0⟩ : ∃ z, at_ vs d = z := ⟨_, rfl⟩
  have ca := h.at_at (show a < vs.length by omega) Ea0
  have fa := h.free a
  have ia : (a : Int) < 16 := by omega
  have Ha := Lib.hid ha
  have cb := h.at_at (show b < vs.length by omega) Eb0
  have fb := h.free b
  have ib : (b : Int) < 16 := by omega
  have Hb := Lib.hid hb
  have cc := h.at_at (show c < vs.length by omega) Ec0
  have fc := h.free c
  have ic : (c : Int) < 16 := by omega
  have Hc := Lib.hid hc
  have cd := h.at_at (show d < vs.length by omega) Ed0
  have fd := h.free d
  have id : (d : Int) < 16 := by omega
  have Hd := Lib.hid hd
  have HEa0 := Lib.hid Ea0
  have HEb0 := Lib.hid Eb0
  have HEc0 := Lib.hid Ec0
  have HEd0 := Lib.hid Ed0
  have Hab := Lib.hid hab
  have Hba := Lib.hid hab.symm
  have Hac := Lib.hid hac
  have Hca := Lib.hid hac.symm
  have Had := Lib.hid had
  have Hda := Lib.hid had.symm
  have Hbc := Lib.hid hbc
  have Hcb := Lib.hid hbc.symm
  have Hbd := Lib.hid hbd
  have Hdb := Lib.hid hbd.symm
  have Hcd := Lib.hid hcd
  have Hdc := Lib.hid hcd.symm
  clear h ha hb hc hd hab hac had hbc hbd hcd hl Ea0 Eb0 Ec0 Ed0
  go_enter Tryd.func60, Tryd.ntmps60
  go_wp2_with (fail)
  go_region
  obtain ⟨A1, HA1⟩ : ∃ z, z = (A0 + (B0 + x)) % 4294967296 := ⟨_, rfl⟩
  rw [← HA1]
  have HA1' := Lib.hid HA1
  clear HA1
  have HU1 := Lib.hid (show U32 ((w.setCell ⟨p, a, none⟩ (.int .u32 A1)).drew) p T (vs.set a A1) from HU0.out.set_ a A1)
  have HB1 := Lib.hid (show But p w ((w.setCell ⟨p, a, none⟩ (.int .u32 A1)).drew) from (HB0.out.trans (But.set_ p a w (.int .u32 A1))).drew)
  have HL1 := Lib.hid (show (vs.set a A1).length = 16 by rw [List.length_set]; exact HL0.out)
  have HEa1 := Lib.hid (show at_ (vs.set a A1) a = A1 by rw [at_set _ _ _ _ (by rw [HL0.out]; exact Ha.out), if_pos rfl])
  have HEb1 := Lib.hid (show at_ (vs.set a A1) b = B0 by rw [at_set _ _ _ _ (by rw [HL0.out]; exact Ha.out), if_neg Hab.out]; exact HEb0.out)
  have HEc1 := Lib.hid (show at_ (vs.set a A1) c = C0 by rw [at_set _ _ _ _ (by rw [HL0.out]; exact Ha.out), if_neg Hac.out]; exact HEc0.out)
  have HEd1 := Lib.hid (show at_ (vs.set a A1) d = D0 by rw [at_set _ _ _ _ (by rw [HL0.out]; exact Ha.out), if_neg Had.out]; exact HEd0.out)
  generalize hv1 : vs.set a A1 = v1 at HU1 HL1 HEa1 HEb1 HEc1 HEd1
  have HV1 := Lib.hid hv1
  clear hv1
  generalize (w.setCell ⟨p, a, none⟩ (.int .u32 A1)).drew = w1 at *
  clear ca cb cc cd fa fb fc fd
  have ca := HU1.out.at_at (show a < v1.length by rw [HL1.out]; exact Ha.out) HEa1.out
  have fa := HU1.out.free a
  have cb := HU1.out.at_at (show b < v1.length by rw [HL1.out]; exact Hb.out) HEb1.out
  have fb := HU1.out.free b
  have cc := HU1.out.at_at (show c < v1.length by rw [HL1.out]; exact Hc.out) HEc1.out
  have fc := HU1.out.free c
  have cd := HU1.out.at_at (show d < v1.length by rw [HL1.out]; exact Hd.out) HEd1.out
  have fd := HU1.out.free d
  go_wp2_with (fail)
  obtain ⟨D1, HD1⟩ : ∃ z, z = rt16 (bits .xor .u32 D0 A1) := ⟨_, rfl⟩
  go_cut [] from 14 to 44 (fun wx => wx = (w1.setCell ⟨p, d, none⟩ (.int .u32 D1)).drew)
  case first =>
    go_region_with (go_at_call 61; refine (rot16_any _ _).mono ?_; rintro e wr ⟨rfl, rfl⟩)
    all_goals
      go_wp2_with (fail)
      go_meet
      rw [HD1]
  case rest =>
  obtain rfl := hcut
  have HD1' := Lib.hid HD1
  clear HD1
  have HU2 := Lib.hid (show U32 ((w1.setCell ⟨p, d, none⟩ (.int .u32 D1)).drew) p T (v1.set d D1) from HU1.out.set_ d D1)
  have HB2 := Lib.hid (show But p w ((w1.setCell ⟨p, d, none⟩ (.int .u32 D1)).drew) from (HB1.out.trans (But.set_ p d w1 (.int .u32 D1))).drew)
  have HL2 := Lib.hid (show (v1.set d D1).length = 16 by rw [List.length_set]; exact HL1.out)
  have HEa2 := Lib.hid (show at_ (v1.set d D1) a = A1 by rw [at_set _ _ _ _ (by rw [HL1.out]; exact Hd.out), if_neg Hda.out]; exact HEa1.out)
  have HEb2 := Lib.hid (show at_ (v1.set d D1) b = B0 by rw [at_set _ _ _ _ (by rw [HL1.out]; exact Hd.out), if_neg Hdb.out]; exact HEb1.out)
  have HEc2 := Lib.hid (show at_ (v1.set d D1) c = C0 by rw [at_set _ _ _ _ (by rw [HL1.out]; exact Hd.out), if_neg Hdc.out]; exact HEc1.out)
  have HEd2 := Lib.hid (show at_ (v1.set d D1) d = D1 by rw [at_set _ _ _ _ (by rw [HL1.out]; exact Hd.out), if_pos rfl])
  generalize hv2 : v1.set d D1 = v2 at HU2 HL2 HEa2 HEb2 HEc2 HEd2
  have HV2 := Lib.hid hv2
  clear hv2
  generalize (w1.setCell ⟨p, d, none⟩ (.int .u32 D1)).drew = w2 at *
  clear ca cb cc cd fa fb fc fd
  have ca := HU2.out.at_at (show a < v2.length by rw [HL2.out]; exact Ha.out) HEa2.out
  have fa := HU2.out.free a
  have cb := HU2.out.at_at (show b < v2.length by rw [HL2.out]; exact Hb.out) HEb2.out
  have fb := HU2.out.free b
  have cc := HU2.out.at_at (show c < v2.length by rw [HL2.out]; exact Hc.out) HEc2.out
  have fc := HU2.out.free c
  have cd := HU2.out.at_at (show d < v2.length by rw [HL2.out]; exact Hd.out) HEd2.out
  have fd := HU2.out.free d
  go_wp2_with (fail)
  go_region
  obtain ⟨C1, HC1⟩ : ∃ z, z = (C0 + D1) % 4294967296 := ⟨_, rfl⟩
  rw [← HC1]
  have HC1' := Lib.hid HC1
  clear HC1
  have HU3 := Lib.hid (show U32 ((w2.setCell ⟨p, c, none⟩ (.int .u32 C1)).drew) p T (v2.set c C1) from HU2.out.set_ c C1)
  have HB3 := Lib.hid (show But p w ((w2.setCell ⟨p, c, none⟩ (.int .u32 C1)).drew) from (HB2.out.trans (But.set_ p c w2 (.int .u32 C1))).drew)
  have HL3 := Lib.hid (show (v2.set c C1).length = 16 by rw [List.length_set]; exact HL2.out)
  have HEa3 := Lib.hid (show at_ (v2.set c C1) a = A1 by rw [at_set _ _ _ _ (by rw [HL2.out]; exact Hc.out), if_neg Hca.out]; exact HEa2.out)
  have HEb3 := Lib.hid (show at_ (v2.set c C1) b = B0 by rw [at_set _ _ _ _ (by rw [HL2.out]; exact Hc.out), if_neg Hcb.out]; exact HEb2.out)
  have HEc3 := Lib.hid (show at_ (v2.set c C1) c = C1 by rw [at_set _ _ _ _ (by rw [HL2.out]; exact Hc.out), if_pos rfl])
  have HEd3 := Lib.hid (show at_ (v2.set c C1) d = D1 by rw [at_set _ _ _ _ (by rw [HL2.out]; exact Hc.out), if_neg Hcd.out]; exact HEd2.out)
  generalize hv3 : v2.set c C1 = v3 at HU3 HL3 HEa3 HEb3 HEc3 HEd3
  have HV3 := Lib.hid hv3
  clear hv3
  generalize (w2.setCell ⟨p, c, none⟩ (.int .u32 C1)).drew = w3 at *
  clear ca cb cc cd fa fb fc fd
  have ca := HU3.out.at_at (show a < v3.length by rw [HL3.out]; exact Ha.out) HEa3.out
  have fa := HU3.out.free a
  have cb := HU3.out.at_at (show b < v3.length by rw [HL3.out]; exact Hb.out) HEb3.out
  have fb := HU3.out.free b
  have cc := HU3.out.at_at (show c < v3.length by rw [HL3.out]; exact Hc.out) HEc3.out
  have fc := HU3.out.free c
  have cd := HU3.out.at_at (show d < v3.length by rw [HL3.out]; exact Hd.out) HEd3.out
  have fd := HU3.out.free d
  go_wp2_with (fail)
  obtain ⟨B1, HB1⟩ : ∃ z, z = rt12 (bits .xor .u32 B0 C1) := ⟨_, rfl⟩
  go_cut [] from 14 to 73 (fun wx => wx = (w3.setCell ⟨p, b, none⟩ (.int .u32 B1)).drew)
  case first =>
    go_region_with (go_at_call 61; refine (rot12_any _ _).mono ?_; rintro e wr ⟨rfl, rfl⟩)
    all_goals
      go_wp2_with (fail)
      go_meet
      rw [HB1]
  case rest =>
  obtain rfl := hcut
  have HB1' := Lib.hid HB1
  clear HB1
  have HU4 := Lib.hid (show U32 ((w3.setCell ⟨p, b, none⟩ (.int .u32 B1)).drew) p T (v3.set b B1) from HU3.out.set_ b B1)
  have HB4 := Lib.hid (show But p w ((w3.setCell ⟨p, b, none⟩ (.int .u32 B1)).drew) from (HB3.out.trans (But.set_ p b w3 (.int .u32 B1))).drew)
  have HL4 := Lib.hid (show (v3.set b B1).length = 16 by rw [List.length_set]; exact HL3.out)
  have HEa4 := Lib.hid (show at_ (v3.set b B1) a = A1 by rw [at_set _ _ _ _ (by rw [HL3.out]; exact Hb.out), if_neg Hba.out]; exact HEa3.out)
  have HEb4 := Lib.hid (show at_ (v3.set b B1) b = B1 by rw [at_set _ _ _ _ (by rw [HL3.out]; exact Hb.out), if_pos rfl])
  have HEc4 := Lib.hid (show at_ (v3.set b B1) c = C1 by rw [at_set _ _ _ _ (by rw [HL3.out]; exact Hb.out), if_neg Hbc.out]; exact HEc3.out)
  have HEd4 := Lib.hid (show at_ (v3.set b B1) d = D1 by rw [at_set _ _ _ _ (by rw [HL3.out]; exact Hb.out), if_neg Hbd.out]; exact HEd3.out)
  generalize hv4 : v3.set b B1 = v4 at HU4 HL4 HEa4 HEb4 HEc4 HEd4
  have HV4 := Lib.hid hv4
  clear hv4
  generalize (w3.setCell ⟨p, b, none⟩ (.int .u32 B1)).drew = w4 at *
  clear ca cb cc cd fa fb fc fd
  have ca := HU4.out.at_at (show a < v4.length by rw [HL4.out]; exact Ha.out) HEa4.out
  have fa := HU4.out.free a
  have cb := HU4.out.at_at (show b < v4.length by rw [HL4.out]; exact Hb.out) HEb4.out
  have fb := HU4.out.free b
  have cc := HU4.out.at_at (show c < v4.length by rw [HL4.out]; exact Hc.out) HEc4.out
  have fc := HU4.out.free c
  have cd := HU4.out.at_at (show d < v4.length by rw [HL4.out]; exact Hd.out) HEd4.out
  have fd := HU4.out.free d
  go_wp2_with (fail)
  go_region
  obtain ⟨A2, HA2⟩ : ∃ z, z = (A1 + (B1 + y)) % 4294967296 := ⟨_, rfl⟩
  rw [← HA2]
  have HA2' := Lib.hid HA2
  clear HA2
  have HU5 := Lib.hid (show U32 ((w4.setCell ⟨p, a, none⟩ (.int .u32 A2)).drew) p T (v4.set a A2) from HU4.out.set_ a A2)
  have HB5 := Lib.hid (show But p w ((w4.setCell ⟨p, a, none⟩ (.int .u32 A2)).drew) from (HB4.out.trans (But.set_ p a w4 (.int .u32 A2))).drew)
  have HL5 := Lib.hid (show (v4.set a A2).length = 16 by rw [List.length_set]; exact HL4.out)
  have HEa5 := Lib.hid (show at_ (v4.set a A2) a = A2 by rw [at_set _ _ _ _ (by rw [HL4.out]; exact Ha.out), if_pos rfl])
  have HEb5 := Lib.hid (show at_ (v4.set a A2) b = B1 by rw [at_set _ _ _ _ (by rw [HL4.out]; exact Ha.out), if_neg Hab.out]; exact HEb4.out)
  have HEc5 := Lib.hid (show at_ (v4.set a A2) c = C1 by rw [at_set _ _ _ _ (by rw [HL4.out]; exact Ha.out), if_neg Hac.out]; exact HEc4.out)
  have HEd5 := Lib.hid (show at_ (v4.set a A2) d = D1 by rw [at_set _ _ _ _ (by rw [HL4.out]; exact Ha.out), if_neg Had.out]; exact HEd4.out)
  generalize hv5 : v4.set a A2 = v5 at HU5 HL5 HEa5 HEb5 HEc5 HEd5
  have HV5 := Lib.hid hv5
  clear hv5
  generalize (w4.setCell ⟨p, a, none⟩ (.int .u32 A2)).drew = w5 at *
  clear ca cb cc cd fa fb fc fd
  have ca := HU5.out.at_at (show a < v5.length by rw [HL5.out]; exact Ha.out) HEa5.out
  have fa := HU5.out.free a
  have cb := HU5.out.at_at (show b < v5.length by rw [HL5.out]; exact Hb.out) HEb5.out
  have fb := HU5.out.free b
  have cc := HU5.out.at_at (show c < v5.length by rw [HL5.out]; exact Hc.out) HEc5.out
  have fc := HU5.out.free c
  have cd := HU5.out.at_at (show d < v5.length by rw [HL5.out]; exact Hd.out) HEd5.out
  have fd := HU5.out.free d
  go_wp2_with (fail)
  obtain ⟨D2, HD2⟩ : ∃ z, z = rt8 (bits .xor .u32 D1 A2) := ⟨_, rfl⟩
  go_cut [] from 14 to 104 (fun wx => wx = (w5.setCell ⟨p, d, none⟩ (.int .u32 D2)).drew)
  case first =>
    go_region_with (go_at_call 61; refine (rot8_any _ _).mono ?_; rintro e wr ⟨rfl, rfl⟩)
    all_goals
      go_wp2_with (fail)
      go_meet
      rw [HD2]
  case rest =>
  obtain rfl := hcut
  have HD2' := Lib.hid HD2
  clear HD2
  have HU6 := Lib.hid (show U32 ((w5.setCell ⟨p, d, none⟩ (.int .u32 D2)).drew) p T (v5.set d D2) from HU5.out.set_ d D2)
  have HB6 := Lib.hid (show But p w ((w5.setCell ⟨p, d, none⟩ (.int .u32 D2)).drew) from (HB5.out.trans (But.set_ p d w5 (.int .u32 D2))).drew)
  have HL6 := Lib.hid (show (v5.set d D2).length = 16 by rw [List.length_set]; exact HL5.out)
  have HEa6 := Lib.hid (show at_ (v5.set d D2) a = A2 by rw [at_set _ _ _ _ (by rw [HL5.out]; exact Hd.out), if_neg Hda.out]; exact HEa5.out)
  have HEb6 := Lib.hid (show at_ (v5.set d D2) b = B1 by rw [at_set _ _ _ _ (by rw [HL5.out]; exact Hd.out), if_neg Hdb.out]; exact HEb5.out)
  have HEc6 := Lib.hid (show at_ (v5.set d D2) c = C1 by rw [at_set _ _ _ _ (by rw [HL5.out]; exact Hd.out), if_neg Hdc.out]; exact HEc5.out)
  have HEd6 := Lib.hid (show at_ (v5.set d D2) d = D2 by rw [at_set _ _ _ _ (by rw [HL5.out]; exact Hd.out), if_pos rfl])
  generalize hv6 : v5.set d D2 = v6 at HU6 HL6 HEa6 HEb6 HEc6 HEd6
  have HV6 := Lib.hid hv6
  clear hv6
  generalize (w5.setCell ⟨p, d, none⟩ (.int .u32 D2)).drew = w6 at *
  clear ca cb cc cd fa fb fc fd
  have ca := HU6.out.at_at (show a < v6.length by rw [HL6.out]; exact Ha.out) HEa6.out
  have fa := HU6.out.free a
  have cb := HU6.out.at_at (show b < v6.length by rw [HL6.out]; exact Hb.out) HEb6.out
  have fb := HU6.out.free b
  have cc := HU6.out.at_at (show c < v6.length by rw [HL6.out]; exact Hc.out) HEc6.out
  have fc := HU6.out.free c
  have cd := HU6.out.at_at (show d < v6.length by rw [HL6.out]; exact Hd.out) HEd6.out
  have fd := HU6.out.free d
  go_wp2_with (fail)
  go_region
  obtain ⟨C2, HC2⟩ : ∃ z, z = (C1 + D2) % 4294967296 := ⟨_, rfl⟩
  rw [← HC2]
  have HC2' := Lib.hid HC2
  clear HC2
  have HU7 := Lib.hid (show U32 ((w6.setCell ⟨p, c, none⟩ (.int .u32 C2)).drew) p T (v6.set c C2) from HU6.out.set_ c C2)
  have HB7 := Lib.hid (show But p w ((w6.setCell ⟨p, c, none⟩ (.int .u32 C2)).drew) from (HB6.out.trans (But.set_ p c w6 (.int .u32 C2))).drew)
  have HL7 := Lib.hid (show (v6.set c C2).length = 16 by rw [List.length_set]; exact HL6.out)
  have HEa7 := Lib.hid (show at_ (v6.set c C2) a = A2 by rw [at_set _ _ _ _ (by rw [HL6.out]; exact Hc.out), if_neg Hca.out]; exact HEa6.out)
  have HEb7 := Lib.hid (show at_ (v6.set c C2) b = B1 by rw [at_set _ _ _ _ (by rw [HL6.out]; exact Hc.out), if_neg Hcb.out]; exact HEb6.out)
  have HEc7 := Lib.hid (show at_ (v6.set c C2) c = C2 by rw [at_set _ _ _ _ (by rw [HL6.out]; exact Hc.out), if_pos rfl])
  have HEd7 := Lib.hid (show at_ (v6.set c C2) d = D2 by rw [at_set _ _ _ _ (by rw [HL6.out]; exact Hc.out), if_neg Hcd.out]; exact HEd6.out)
  generalize hv7 : v6.set c C2 = v7 at HU7 HL7 HEa7 HEb7 HEc7 HEd7
  have HV7 := Lib.hid hv7
  clear hv7
  generalize (w6.setCell ⟨p, c, none⟩ (.int .u32 C2)).drew = w7 at *
  clear ca cb cc cd fa fb fc fd
  have ca := HU7.out.at_at (show a < v7.length by rw [HL7.out]; exact Ha.out) HEa7.out
  have fa := HU7.out.free a
  have cb := HU7.out.at_at (show b < v7.length by rw [HL7.out]; exact Hb.out) HEb7.out
  have fb := HU7.out.free b
  have cc := HU7.out.at_at (show c < v7.length by rw [HL7.out]; exact Hc.out) HEc7.out
  have fc := HU7.out.free c
  have cd := HU7.out.at_at (show d < v7.length by rw [HL7.out]; exact Hd.out) HEd7.out
  have fd := HU7.out.free d
  go_wp2_with (fail)
  obtain ⟨B2, HB2⟩ : ∃ z, z = rt7 (bits .xor .u32 B1 C2) := ⟨_, rfl⟩
  have HB2' := Lib.hid HB2
  clear HB2
  have HU8 := Lib.hid (show U32 ((w7.setCell ⟨p, b, none⟩ (.int .u32 B2)).drew) p T (v7.set b B2) from HU7.out.set_ b B2)
  have HB8 := Lib.hid (show But p w ((w7.setCell ⟨p, b, none⟩ (.int .u32 B2)).drew) from (HB7.out.trans (But.set_ p b w7 (.int .u32 B2))).drew)
  have HL8 := Lib.hid (show (v7.set b B2).length = 16 by rw [List.length_set]; exact HL7.out)
  have HEa8 := Lib.hid (show at_ (v7.set b B2) a = A2 by rw [at_set _ _ _ _ (by rw [HL7.out]; exact Hb.out), if_neg Hba.out]; exact HEa7.out)
  have HEb8 := Lib.hid (show at_ (v7.set b B2) b = B2 by rw [at_set _ _ _ _ (by rw [HL7.out]; exact Hb.out), if_pos rfl])
  have HEc8 := Lib.hid (show at_ (v7.set b B2) c = C2 by rw [at_set _ _ _ _ (by rw [HL7.out]; exact Hb.out), if_neg Hbc.out]; exact HEc7.out)
  have HEd8 := Lib.hid (show at_ (v7.set b B2) d = D2 by rw [at_set _ _ _ _ (by rw [HL7.out]; exact Hb.out), if_neg Hbd.out]; exact HEd7.out)
  generalize hv8 : v7.set b B2 = v8 at HU8 HL8 HEa8 HEb8 HEc8 HEd8
  have HV8 := Lib.hid hv8
  clear hv8
  go_region_with (go_at_call 61; refine (rot7_any _ _).mono ?_; rintro e wr ⟨rfl, rfl⟩)
  all_goals
    rw [← HB2'.out]
    generalize (w7.setCell ⟨p, b, none⟩ (.int .u32 B2)).drew = w8 at *
    go_wp2_with (fail)
    go_end0
    refine ⟨rfl, ?_, HB8.out⟩
    have e : mixL vs a b c d x y = v8 := by
      rw [← HV8.out, ← HV7.out, ← HV6.out, ← HV5.out, ← HV4.out, ← HV3.out, ← HV2.out, ← HV1.out, HN.out]
      simp only [mixL, gq, HEa0.out, HEb0.out, HEc0.out, HEd0.out, gA, ad, xo, HA1'.out, HB1'.out, HC1'.out, HD1'.out, HA2'.out, HB2'.out, HC2'.out, HD2'.out]
    rw [e]
    exact HU8.out
end Go.Proofs.YtdjfklllfbenjaaDoor
