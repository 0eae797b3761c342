/- The law's known: the examples of the chapter. -/
import Derived.Test.YtdjfklllfbenjaaDoorEh
import Derived.Lib.SmallJoins
namespace Go.Proofs.YtdjfklllfbenjaaDoor
open Go.RowKit

/-- Sealed bytes that are changed in the tag are not opened. -/
theorem open_changed (kd b : List Int) (j : Nat) (y : Int) (h : openE kd b = 0) (h1 : b.length - 16 ≤ j) (h2 : j < b.length) (hy : y ≠ at_ b j) : openE kd (b.set j y) = 10 := by
  have h32 : ¬ b.length < 32 := by
    intro h3; unfold openE at h; rw [if_pos h3] at h; exact absurd h (by decide)
  have h65 : ¬ 65536 < b.length := by
    intro h3; unfold openE at h; rw [if_neg h32, if_pos h3] at h; exact absurd h (by decide)
  have ht : b.drop (b.length - 16) = tagL kd (b.take (b.length - 16)) := by
    by_cases h3 : b.drop (b.length - 16) = tagL kd (b.take (b.length - 16))
    · exact h3
    · unfold openE at h; rw [if_neg h32, if_neg h65, if_neg h3] at h; exact absurd h (by decide)
  unfold openE
  rw [List.length_set, if_neg h32, if_neg h65, List.take_set_of_le h1, ← ht]
  rw [if_neg]
  intro h4
  have h5 := congrArg (·[j - (b.length - 16)]?) h4
  simp only [List.getElem?_drop] at h5
  rw [show b.length - 16 + (j - (b.length - 16)) = j by omega, List.getElem?_set_self h2] at h5
  apply hy
  unfold at_
  rw [← h5]
  rfl
theorem openP_zero {kd b : List Int} (h : openE kd b ≠ 0) : openP kd b = [] := by unfold openP; rw [if_neg h]
theorem openE_short {kd b : List Int} (h : b.length < 32) : openE kd b = 4 := by unfold openE; rw [if_pos h]
theorem Own.far {w : World} {B g n c : Nat} {ds : List Int} (h : Own w B (.slice (some ⟨g, 0, none⟩) n c) ds) {p : Addr} (hp : g ≠ p.block) (u : Value) : Own (w.setCell p u) B (.slice (some ⟨g, 0, none⟩) n c) ds := by
  refine ⟨h.1, ?_⟩
  rcases h.2 with ⟨e, _⟩ | ⟨g', cap, cur, e, hb, hg, r⟩
  · simp at e
  · have : g = g' := by simp at e; exact e.1
    subst this
    exact .inr ⟨g, cap, cur, e, hb, (Below.heap_setCell w p u g hp).trans hg, r⟩
theorem Own.cap_ {w : World} {B g n c : Nat} {ds : List Int} (h : Own w B (.slice (some ⟨g, 0, none⟩) n c) ds) : n ≤ c := by
  rcases h.2 with ⟨e, _⟩ | ⟨g', cap, cur, e, hb, hg, hn, _⟩
  · simp at e
  · simp at e
    omega
theorem Bys8.set_ {a : List Int} (ha : Bys8 a) (j : Nat) {y : Int} (hy : By y) : Bys8 (a.set j y) := fun x h => (List.mem_or_eq_of_mem_set h).elim (ha x) (fun e => e ▸ hy)
set_option maxRecDepth 100000 in
set_option maxHeartbeats 8000000 in
theorem sknown_any (w : World) (htab : Tabs w) : Calls Tryd.prog 23 #[] w fun e w' => e = .returned (.bool true) ∧ Below w.heap.size w w' := by
  have HT := Lib.hid htab
  have hcv : (convert 22 22 (.slice (some ⟨w.heap.size, 0, none⟩) 1 1)).run Tryd.prog (w.alloc (.cells #[.int .u8 107] 5)) = .ok (.slice (some ⟨w.heap.size, 0, none⟩) 1 1) (w.alloc (.cells #[.int .u8 107] 5 (1, 2))) := Go.Joins.run_convert_bytes_const_at w 22 5 #[.int .u8 107] 1 1 w.heap.size rfl Tryd.underlying22 Tryd.underlying5
  have HC1 := Lib.hid (key_any (some ⟨w.heap.size, 0, none⟩) 1 1 [107] _ rfl (lit_part w [107] 1 (1, 2) #[.int .u8 107] rfl rfl))
  have B1 := Lib.hid (Below.new w (.cells #[.int .u8 107] 5 (1, 2)))
  have S1 := Lib.hid B1.out.size
  clear htab
  go_enter Tryd.func23, Tryd.ntmps23
  go_wp2_with (fail)
  generalize w.alloc (.cells #[.int .u8 107] 5 (1, 2)) = w1 at *
  refine HC1.out.mono ?_
  rintro e w2 ⟨⟨gk, rfl, o2⟩, b2⟩
  have PK2 := Lib.hid o2.part
  have B2 := Lib.hid (B1.out.trans (b2.mono S1.out))
  have S2 := Lib.hid B2.out.size
  clear HC1 B1 S1 o2 b2 hcv
  have hcv : (convert 22 22 (.slice (some ⟨w2.heap.size, 0, none⟩) 1 1)).run Tryd.prog (w2.alloc (.cells #[.int .u8 110] 5)) = .ok (.slice (some ⟨w2.heap.size, 0, none⟩) 1 1) (w2.alloc (.cells #[.int .u8 110] 5 (1, 2))) := Go.Joins.run_convert_bytes_const_at w2 22 5 #[.int .u8 110] 1 1 w2.heap.size rfl Tryd.underlying22 Tryd.underlying5
  have HC3 := Lib.hid (nonce_any (some ⟨w2.heap.size, 0, none⟩) 1 1 [110] _ rfl (lit_part w2 [110] 1 (1, 2) #[.int .u8 110] rfl rfl))
  have q3 := Below.new w2 (.cells #[.int .u8 110] 5 (1, 2))
  have PK3 := Lib.hid (PK2.out.later q3 q3.size)
  have B3 := Lib.hid (B2.out.trans (q3.mono S2.out))
  have S3 := Lib.hid B3.out.size
  clear PK2 B2 S2 q3
  go_wp2_with (fail)
  generalize w2.alloc (.cells #[.int .u8 110] 5 (1, 2)) = w3 at *
  refine HC3.out.mono ?_
  rintro e w4 ⟨⟨gn, rfl, p4⟩, b4⟩
  have PK := Lib.hid (PK3.out.later b4 b4.size)
  have PN := Lib.hid p4
  have B4 := Lib.hid (B3.out.trans (b4.mono S3.out))
  have S4 := Lib.hid B4.out.size
  have HT4 := Lib.hid (HT.out.below B4.out HT.out.lt)
  have P4 : Hid (2 ≤ w4.heap.size) := Lib.hid (Nat.le_trans HT.out.lt S4.out)
  obtain ⟨K0, hK0⟩ : ∃ K0, keyOf [107] = K0 := ⟨_, rfl⟩
  have KL : Hid (K0.length = 32) := Lib.hid (by rw [← hK0]; exact keyOf_len _)
  obtain ⟨N0, hN0⟩ : ∃ N0, (keyOf [110]).take 16 = N0 := ⟨_, rfl⟩
  have NL : Hid (N0.length = 16) := Lib.hid (by rw [← hN0, List.length_take, keyOf_len]; rfl)
  have NB : Hid (Bys8 N0) := Lib.hid (by rw [← hN0]; exact (keyOf_by (by intro x hx; simp at hx; subst hx; exact ⟨by decide, by decide⟩)).take _)
  rw [hK0] at PK
  rw [hN0] at PN
  clear hK0 hN0 PK3 B3 S3 p4 b4 HC3 hcv
  -- Seal of nothing
  have HC5 := Lib.hid (Seal_ok (some ⟨gk, 0, none⟩) (some ⟨gn, 0, none⟩) none 32 32 0 0 K0 N0 [] w4 KL.out PK.out NL.out PN.out rfl (PartAt.nil_ _ _) (by omega) HT4.out)
  go_wp2_with (fail)
  refine HC5.out.mono ?_
  rintro e w5 ⟨⟨va, rfl, oa⟩, b5⟩
  obtain ⟨SA, hSA⟩ : ∃ SA, sealL K0 N0 [] = SA := ⟨_, rfl⟩
  have SAL : SA.length = 32 := by rw [← hSA, sealL_len, NL.out]; rfl
  have SAO : Hid (openE K0 SA = 0 ∧ openP K0 SA = []) := Lib.hid (by rw [← hSA]; exact open_seal K0 N0 [] NL.out (by simp) Bys8.nil)
  have SAB : Hid (Bys8 SA) := Lib.hid (by rw [← hSA]; exact sealL_by _ _ _ NB.out)
  rw [hSA] at oa
  obtain ⟨Aa, ca, rfl, -⟩ := oa.shape
  rw [SAL] at oa ⊢
  have OA5 := Lib.hid oa
  have B5 := Lib.hid b5
  have S5 := Lib.hid b5.size
  have SAL' := Lib.hid SAL
  clear oa b5 HC5 hSA SAL
  -- Seal of "abc"
  have hcv : (convert 22 22 (.slice (some ⟨w5.heap.size, 0, none⟩) 3 3)).run Tryd.prog (w5.alloc (.cells #[.int .u8 97, .int .u8 98, .int .u8 99] 5)) = .ok (.slice (some ⟨w5.heap.size, 0, none⟩) 3 3) (w5.alloc (.cells #[.int .u8 97, .int .u8 98, .int .u8 99] 5 (3, 4))) := Go.Joins.run_convert_bytes_const_at w5 22 5 #[.int .u8 97, .int .u8 98, .int .u8 99] 3 3 w5.heap.size rfl Tryd.underlying22 Tryd.underlying5
  have q6 := Below.new w5 (.cells #[.int .u8 97, .int .u8 98, .int .u8 99] 5 (3, 4))
  have HPL := Lib.hid (lit_part w5 [97, 98, 99] 3 (3, 4) #[.int .u8 97, .int .u8 98, .int .u8 99] rfl rfl)
  have B6 := Lib.hid (B5.out.trans (q6.mono S5.out))
  have OA6 := Lib.hid (OA5.out.below q6)
  have S6 := Lib.hid B6.out.size
  clear q6 OA5 B5 S5
  go_wp2_with (fail)
  generalize w5.alloc (.cells #[.int .u8 97, .int .u8 98, .int .u8 99] 5 (3, 4)) = w6 at *
  have HC7 := Lib.hid (Seal_ok (some ⟨gk, 0, none⟩) (some ⟨gn, 0, none⟩) (some ⟨w5.heap.size, 0, none⟩) 32 32 3 3 K0 N0 [97, 98, 99] w6 KL.out (PK.out.later B6.out S6.out) NL.out (PN.out.later B6.out S6.out) rfl HPL.out (by omega) (HT4.out.below B6.out P4.out))
  refine HC7.out.mono ?_
  rintro e w7 ⟨⟨vb, rfl, ob⟩, b7⟩
  obtain ⟨SB, hSB⟩ : ∃ SB, sealL K0 N0 [97, 98, 99] = SB := ⟨_, rfl⟩
  have SBL : SB.length = 35 := by rw [← hSB, sealL_len, NL.out]; rfl
  have abc : Bys8 [97, 98, 99] := by
    intro x hx
    simp at hx
    rcases hx with rfl | rfl | rfl <;> exact ⟨by decide, by decide⟩
  have SBO : Hid (openE K0 SB = 0 ∧ openP K0 SB = [97, 98, 99]) := Lib.hid (by rw [← hSB]; exact open_seal K0 N0 [97, 98, 99] NL.out (by simp) abc)
  have SBB : Hid (Bys8 SB) := Lib.hid (by rw [← hSB]; exact sealL_by _ _ _ NB.out)
  rw [hSB] at ob
  obtain ⟨gb, cb, rfl⟩ := ob.shape1 (by omega)
  rw [SBL] at ob ⊢
  have OB7 := Lib.hid (Own.less ob S6.out)
  have OA7 := Lib.hid (OA6.out.below b7)
  have B7 := Lib.hid (B6.out.trans (b7.mono S6.out))
  have S7 := Lib.hid B7.out.size
  have SBL' := Lib.hid SBL
  clear ob b7 HC7 hSB SBL hcv HPL B6 OA6 S6 abc
  -- Open
  have HC8 := Lib.hid (Open_any (some ⟨gk, 0, none⟩) Aa 32 32 ca K0 SA w7 KL.out (PK.out.later B7.out S7.out) SAL'.out OA7.out.part SAB.out (HT4.out.below B7.out P4.out))
  rw [SAO.out.1, SAO.out.2] at HC8
  go_wp2_with (fail)
  refine HC8.out.mono ?_
  rintro e w8 ⟨⟨vc, rfl, oc⟩, b8⟩
  obtain ⟨Ac, cc, rfl, -⟩ := oc.shape
  have OB8 := Lib.hid (OB7.out.below b8)
  have B8 := Lib.hid (B7.out.trans (b8.mono S7.out))
  have S8 := Lib.hid B8.out.size
  clear oc b8 HC8 OA7 OB7 B7 S7
  have HC9 := Lib.hid (Open_any (some ⟨gk, 0, none⟩) (some ⟨gb, 0, none⟩) 32 35 cb K0 SB w8 KL.out (PK.out.later B8.out S8.out) SBL'.out OB8.out.part SBB.out (HT4.out.below B8.out P4.out))
  rw [SBO.out.1, SBO.out.2] at HC9
  go_wp2_with (fail)
  refine HC9.out.mono ?_
  rintro e w9 ⟨⟨vd, rfl, od⟩, b9⟩
  have OB9 := Lib.hid (OB8.out.below b9)
  have B9 := Lib.hid (B8.out.trans (b9.mono S8.out))
  have S9 := Lib.hid B9.out.size
  have S8' : w4.heap.size ≤ w8.heap.size := S8.out
  have OD9 := Lib.hid (Own.less od S8')
  obtain ⟨gd, cd, rfl⟩ := od.shape1 (by decide)
  have hgd := Lib.hid od.base
  have hgb := Lib.hid (show gb < w8.heap.size from OB8.out.base.2)
  clear od b9 HC9 OB8 B8 S8 S8'
  -- b[34]++
  have c34 := OB9.out.cellAt (j := 34) (by rw [SBL'.out]; omega)
  have f34 := OB9.out.freeAt 34
  obtain ⟨x, hx⟩ : ∃ x, at_ SB 34 = x := ⟨_, rfl⟩
  obtain ⟨y, hy⟩ : ∃ y, (x + 1) % 256 = y := ⟨_, rfl⟩
  have hxb : By x := by rw [← hx]; exact SBB.out.at_ 34
  have hyx : Hid (y ≠ at_ SB 34) := Lib.hid (by rw [hx, ← hy]; unfold By at hxb; omega)
  have hyb : Hid (By y) := Lib.hid (by rw [← hy]; unfold By; omega)
  have hyw : IntKind.u8.wrap y = y := by rw [IntKind.wrap_u8']; have := hyb.out; unfold By at this; omega
  rw [hx] at c34
  have OB10 := Lib.hid (OB9.out.set_ (j := 34) y)
  have B10 := Lib.hid (B9.out.setCell (p := ⟨gb, 34, none⟩) OB9.out.base.1 (.int .u8 y))
  have OD10 := Lib.hid (OD9.out.far (p := ⟨gb, 34, none⟩) (show gd ≠ gb by have h1 := hgd.out.1; have h2 := hgb.out; omega) (.int .u8 y))
  have hcap := OB9.out.cap_
  clear hx hxb OB9 B9 OD9 hgd hgb
  obtain ⟨SC, hSC⟩ : ∃ SC, SB.set 34 y = SC := ⟨_, rfl⟩
  have SCL : Hid (SC.length = 35) := Lib.hid (by rw [← hSC, List.length_set, SBL'.out])
  have SCB : Hid (Bys8 SC) := Lib.hid (by rw [← hSC]; exact SBB.out.set_ 34 hyb.out)
  have SCO : Hid (openE K0 SC = 10 ∧ openP K0 SC = []) := Lib.hid (by
    have h1 : openE K0 SC = 10 := by rw [← hSC]; exact open_changed K0 SB 34 y SBO.out.1 (by rw [SBL'.out]; omega) (by rw [SBL'.out]; omega) hyx.out
    exact ⟨h1, openP_zero (by rw [h1]; decide)⟩)
  rw [hSC] at OB10
  clear hSC SAO SAB SBO SBB SBL' SAL' hyx hyb NB
  go_wp2_with (fail)
  clear f34 c34 hy hyw
  generalize w9.setCell ⟨gb, 34, none⟩ (.int .u8 y) = w10 at *
  have S10 := Lib.hid B10.out.size
  have HC11 := Lib.hid (Open_any (some ⟨gk, 0, none⟩) (some ⟨gb, 0, none⟩) 32 35 cb K0 SC w10 KL.out (PK.out.later B10.out S10.out) SCL.out OB10.out.part SCB.out (HT4.out.below B10.out P4.out))
  rw [SCO.out.1, SCO.out.2] at HC11
  refine HC11.out.mono ?_
  rintro e w11 ⟨⟨ve, rfl, oe⟩, b11⟩
  obtain ⟨Ae, ce, rfl, -⟩ := oe.shape
  have OB11 := Lib.hid (OB10.out.below b11)
  have OD11 := Lib.hid (OD10.out.below b11)
  have B11 := Lib.hid (B10.out.trans (b11.mono S10.out))
  have S11 := Lib.hid B11.out.size
  clear oe b11 HC11 OB10 OD10 B10 S10
  go_wp2_with (fail)
  refine (derive_no (some ⟨gk, 0, none⟩) 31 32 ⟨#[120]⟩ w11 (by omega)).mono ?_
  rintro e w11 ⟨rfl, rfl⟩
  go_wp2_with (fail)
  refine (derive_no (some ⟨gk, 0, none⟩) 32 32 ⟨#[]⟩ w11 (by decide)).mono ?_
  rintro e w11 ⟨rfl, rfl⟩
  go_wp2_with (fail)
  refine (Stream_no (some ⟨gk, 0, none⟩) (some ⟨gn, 0, none⟩) 32 32 16 32 (-1) w11 (by omega)).mono ?_
  rintro e w11 ⟨rfl, rfl⟩
  have l31 : (SC.take 31).length = 31 := by rw [List.length_take, SCL.out]; rfl
  have HC12 := Lib.hid (Open_any (some ⟨gk, 0, none⟩) (some ⟨gb, 0, none⟩) 32 31 cb K0 (SC.take 31) w11 KL.out (PK.out.later B11.out S11.out) l31 (Own.take_part OB11.out.part SCL.out (by omega)) (SCB.out.take _) (HT4.out.below B11.out P4.out))
  rw [openE_short (by omega), openP_zero (by rw [openE_short (by omega)]; decide)] at HC12
  have q1 : 31 ≤ cb := by omega
  have q2 : (31 : Int) ≤ cb := by omega
  clear l31 hcap
  go_wp2_with (fail)
  refine HC12.out.mono ?_
  rintro e w12 ⟨⟨vf, rfl, of⟩, b12⟩
  obtain ⟨Af, cf, rfl, -⟩ := of.shape
  have hcd : (convert 22 9 (.slice (some ⟨gd, 0, none⟩) 3 cd)).run Tryd.prog w12 = .ok (.string ⟨#[97, 98, 99]⟩) w12 := conv_part (OD11.out.below b12).part
  have BE := Lib.hid (B4.out.trans ((B11.out.trans (b12.mono S11.out)).mono S4.out))
  clear of b12 HC12 OB11 OD11 B11 S11 q1 q2
  go_wp2_with (fail)
  go_ret
  exact ⟨rfl, BE.out⟩
end Go.Proofs.YtdjfklllfbenjaaDoor
