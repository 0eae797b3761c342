/- Package seal: masked, tag, alike. -/
import Derived.Test.YtdjfklllfbenjaaDoorEd
namespace Go.Proofs.YtdjfklllfbenjaaDoor
open Go.RowKit

def tagS : ByteArray := ⟨#[116, 97, 103]⟩
theorem tagS_nums : numsOf tagS = tagLb := by decide
theorem PartAt.cell_ {w : World} {p : Nat} {A : Option Addr} {n c : Nat} {ds : List Int} (h : PartAt w p (.slice A n c) ds) (h0 : 0 < ds.length) : ∃ b o, A = some ⟨b, o, none⟩ ∧ b < w.heap.size ∧ ∀ k, k < ds.length → w.cell? ⟨b, o + k, none⟩ = some (.int .u8 (at_ ds k)) := by
  obtain ⟨A', c', e, hle, hA⟩ := h
  obtain ⟨b, o, e2, h1, h2, h3⟩ := hA h0
  simp at e
  exact ⟨b, o, by rw [e.1, e2], h2, h3⟩
set_option maxRecDepth 100000 in
set_option maxHeartbeats 4000000 in
theorem masked_any (A B D : Option Addr) (c cb m cd : Nat) (kd nd bd : List Int) (w : World) (hkl : kd.length = 32) (hk : PartAt w w.heap.size (.slice A 32 c) kd) (hnl : nd.length = 16) (hb : PartAt w w.heap.size (.slice B 16 cb) nd) (hdl : bd.length = m) (hd : PartAt w w.heap.size (.slice D m cd) bd) (hm : m ≤ 65504) (htab : Tabs w) :
    Calls Tryd.prog 46 #[.slice A 32 c, .slice B 16 cb, .slice D m cd] w fun e w' => (∃ v, e = .returned v ∧ Own w' w.heap.size v (maskL kd nd bd)) ∧ Below w.heap.size w w' := by
  have HC := Lib.hid (stream_any A B c cb m kd nd w hkl hk hnl hb hm htab)
  have HD := Lib.hid hd
  have HL := Lib.hid hdl
  clear hk hkl hnl hb htab hd hdl
  go_enter Tryd.func46, Tryd.ntmps46
  go_wp2_with (fail)
  refine HC.out.mono ?_
  rintro e w1 ⟨⟨v1, rfl, h1⟩, b1⟩
  clear HC
  obtain ⟨st, hst⟩ : ∃ st, streamL kd nd m = st := ⟨_, rfl⟩
  have hsl : st.length = m := by rw [← hst, streamL_len]
  have HM : Hid (maskL kd nd bd = mskTo st bd m) := Lib.hid (by unfold maskL; rw [HL.out, hst, ← mskTo_all, HL.out])
  have O1 : Hid (Own w1 w.heap.size v1 (mskTo st bd 0)) := Lib.hid (by rw [mskTo_zero _ _ (by rw [hsl, HL.out]), ← hst]; exact h1)
  have B1 := Lib.hid b1
  obtain ⟨A1, c1, rfl, -⟩ := O1.out.shape
  have l1 : (mskTo st bd 0).length = m := by rw [mskTo_len, HL.out]
  rw [l1] at O1 ⊢
  clear h1 b1 hsl hst l1
  go_wp2_with (fail)
  go_loopw [17] (fun i wx => ∃ k : Nat, k ≤ m ∧ i = .int .i64 k ∧ Hid (Own wx w.heap.size (.slice A1 m c1) (mskTo st bd k)) ∧ Hid (Below w.heap.size w wx)) (fun i _ => m - (intOf i).toNat)
  case atStart => exact ⟨0, Nat.zero_le _, rfl, O1, B1⟩
  case round =>
    obtain ⟨k, hk, rfl, ho, hbl⟩ := hrel
    clear O1 B1
    by_cases g : k < m
    · have gI : (k : Int) < m := by omega
      obtain ⟨g1, cc, e1⟩ := ho.out.shape1 (by rw [mskTo_len, HL.out]; omega)
      injection e1 with e1
      subst e1
      obtain ⟨b, o, rfl, hbl2, hc⟩ := (HD.out.later hbl.out hbl.out.size).cell_ (by rw [HL.out]; omega)
      have c0 := hc k (by rw [HL.out]; exact g)
      have c2 := ho.out.cellAt (j := k) (by rw [mskTo_len, HL.out]; exact g)
      rw [mskTo_at _ _ _ _ (by rw [HL.out]; exact g) (Nat.le_refl _)] at c2
      have f2 := ho.out.freeAt k
      have hs := ho.out.base
      have HO2 := Lib.hid (ho.out.set_ (j := k) (x8 (at_ st k) (at_ bd k)))
      rw [mskTo_set] at HO2
      have HB2 : Hid (Below w.heap.size w (wr.setCell ⟨g1, k, none⟩ (.int .u8 (x8 (at_ st k) (at_ bd k))))) := Lib.hid (hbl.out.setCell hs.1 _)
      have hx : x8 (at_ st k) (at_ bd k) = bits .xor .u8 (at_ st k) (at_ bd k) := rfl
      obtain ⟨y, hy⟩ : ∃ y, x8 (at_ st k) (at_ bd k) = y := ⟨_, rfl⟩
      rw [hy] at hx HO2 HB2
      have hw : IntKind.u8.wrap y = y := by rw [← hy, IntKind.wrap_u8']; have := x8_by (at_ st k) (at_ bd k); unfold By at this; omega
      generalize at_ st k = u1 at *
      generalize at_ bd k = u2 at *
      have hx2 := hx.symm
      clear ho hbl hc hs hy hx hbl2
      go_wp2_with (fail)
      exact ⟨⟨k + 1, by omega, by go_num, HO2, HB2⟩, by simp [intOf]; omega⟩
    · obtain rfl : k = m := by omega
      rw [← HM.out] at ho
      go_wp2_with (fail)
      go_ret
      exact ⟨⟨_, rfl, ho.out⟩, hbl.out⟩
set_option maxRecDepth 100000 in
set_option maxHeartbeats 2000000 in
theorem tag_any (A D : Option Addr) (c m cd : Nat) (kd td : List Int) (w : World) (hkl : kd.length = 32) (hk : PartAt w w.heap.size (.slice A 32 c) kd) (hd : PartAt w w.heap.size (.slice D m cd) td) (hm : td.length < 10000000000) (htab : Tabs w) :
    Calls Tryd.prog 47 #[.slice A 32 c, .slice D m cd] w fun e w' => (∃ g, e = .returned (.slice (some ⟨g, 0, none⟩) 16 32) ∧ PartAt w' w'.heap.size (.slice (some ⟨g, 0, none⟩) 16 32) (tagL kd td)) ∧ Below w.heap.size w w' := by
  have HC := Lib.hid (derived_any A 32 c kd tagS w hkl (by omega) (by omega) hk (by decide) htab)
  rw [tagS_nums] at HC
  have HD := Lib.hid hd
  have HM := Lib.hid hm
  have HT := Lib.hid htab
  clear hk hkl hd hm htab
  go_enter Tryd.func47, Tryd.ntmps47
  go_wp2_with (fail)
  refine HC.out.mono ?_
  rintro e w1 ⟨⟨g1, rfl, h1⟩, b1⟩
  have HC2 := Lib.hid (skeyed_any (some ⟨g1, 0, none⟩) D 32 32 m cd (hashB kd tagLb) td w1 (hashB_len _ _) (by omega) (by omega) h1 (HD.out.later b1 b1.size) HM.out (HT.out.below b1 HT.out.lt))
  have B1 := Lib.hid b1
  clear h1 b1 HC HD HT
  go_wp2_with (fail)
  refine HC2.out.mono ?_
  rintro e w2 ⟨⟨g2, rfl, h2⟩, b2⟩
  have H2 := Lib.hid (Own.take_part h2 (hashB_len _ _) (show 16 ≤ 32 by omega))
  have B2 := Lib.hid (B1.out.trans (b2.mono B1.out.size))
  clear h2 b2 B1 HC2
  go_wp2_with (fail)
  go_ret
  exact ⟨⟨g2, rfl, H2.out⟩, B2.out⟩
/-- What alike gathers. -/
def orTo (a b : List Int) : Nat → Int
  | 0 => 0
  | k + 1 => o8 (orTo a b k) (x8 (at_ a k) (at_ b k))
theorem orTo_by (a b : List Int) : ∀ k, By (orTo a b k)
  | 0 => show By 0 from ⟨by decide, by decide⟩
  | _ + 1 => o8_by _ _
theorem orTo_zero (a b : List Int) (ha : Bys8 a) (hb : Bys8 b) : ∀ k, orTo a b k = 0 ↔ ∀ j, j < k → at_ a j = at_ b j
  | 0 => ⟨fun _ j hj => by omega, fun _ => rfl⟩
  | k + 1 => by
    show o8 (orTo a b k) (x8 (at_ a k) (at_ b k)) = 0 ↔ _
    rw [o8_eq (orTo_by a b k) (x8_by _ _), orTo_zero a b ha hb k, x8_eq (ha.at_ k) (hb.at_ k)]
    constructor
    · rintro ⟨h1, h2⟩ j hj
      rcases Nat.lt_succ_iff_lt_or_eq.1 hj with h | rfl
      · exact h1 j h
      · exact h2
    · intro h
      exact ⟨fun j hj => h j (by omega), h k (by omega)⟩
theorem orTo_eq (a b : List Int) (ha : Bys8 a) (hb : Bys8 b) (hl : a.length = b.length) : orTo a b a.length = 0 ↔ a = b := by
  rw [orTo_zero a b ha hb]
  constructor
  · exact at_ext hl
  · rintro rfl j _; rfl
set_option maxRecDepth 100000 in
set_option maxHeartbeats 2000000 in
theorem alike_any (A B : Option Addr) (c cb n : Nat) (ad bd : List Int) (w : World) (hal : ad.length = n) (ha : PartAt w w.heap.size (.slice A n c) ad) (hbl : bd.length = n) (hb : PartAt w w.heap.size (.slice B n cb) bd) (hba : Bys8 ad) (hbb : Bys8 bd) (hn : n < 1000000) :
    Calls Tryd.prog 48 #[.slice A n c, .slice B n cb] w fun e w' => e = .returned (.bool (decide (ad = bd))) ∧ Below w.heap.size w w' := by
  have HA := Lib.hid ha
  have HB := Lib.hid hb
  have HAL := Lib.hid hal
  have HBL := Lib.hid hbl
  have HE := Lib.hid (orTo_eq ad bd hba hbb (by rw [hal, hbl]))
  rw [hal] at HE
  have HW := Lib.hid (Below.refl w.heap.size w)
  clear ha hb hal hbl hba hbb
  go_enter Tryd.func48, Tryd.ntmps48
  go_wp2_with (fail)
  go_loopw [5, 10] (fun d i wx => ∃ k : Nat, k ≤ n ∧ i = .int .i64 k ∧ d = .int .u8 (orTo ad bd k) ∧ Hid (Below w.heap.size w wx)) (fun _ i _ => n - (intOf i).toNat)
  case atStart => exact ⟨0, Nat.zero_le _, rfl, rfl, HW⟩
  case round =>
    obtain ⟨k, hk, rfl, rfl, hbl⟩ := hrel
    clear HW
    by_cases g : k < n
    · have gI : (k : Int) < n := by omega
      obtain ⟨b, o, rfl, -, hc⟩ := (HA.out.later hbl.out hbl.out.size).cell_ (by rw [HAL.out]; omega)
      have c0 := hc k (by rw [HAL.out]; exact g)
      obtain ⟨b', o', rfl, -, hc'⟩ := (HB.out.later hbl.out hbl.out.size).cell_ (by rw [HBL.out]; omega)
      have c1 := hc' k (by rw [HBL.out]; exact g)
      have HS : Hid (o8 (orTo ad bd k) (x8 (at_ ad k) (at_ bd k)) = orTo ad bd (k + 1)) := Lib.hid rfl
      unfold o8 x8 at HS
      generalize at_ ad k = u1 at *
      generalize at_ bd k = u2 at *
      clear hc hc'
      go_wp2_with (fail)
      rw [HS.out]
      exact ⟨⟨k + 1, by omega, by go_num, rfl, hbl⟩, by simp [intOf]; omega⟩
    · obtain rfl : k = n := by omega
      have hd : decide (orTo ad bd k = 0) = decide (ad = bd) := decide_eq_decide.2 HE.out
      go_wp2_with (fail)
      go_ret
      refine ⟨?_, hbl.out⟩
      show Ending.returned (.bool (decide (orTo ad bd k = 0))) = _
      rw [hd]
end Go.Proofs.YtdjfklllfbenjaaDoor
