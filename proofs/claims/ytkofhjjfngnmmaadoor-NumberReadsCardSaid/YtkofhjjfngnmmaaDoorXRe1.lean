/- The statement NumberReads: the walk. -/
import Derived.Test.YtkofhjjfngnmmaaDoorXRd1
import Derived.Test.YtkofhjjfngnmmaaDoorXSs1
namespace Go.Proofs.YtkofhjjfngnmmaaDoor
open Go.RowKit

theorem par_read {l : List UInt8} (h : parOk l = true) : l ≠ [] ∧ ReadOk l ∧ fd l = parD l ∧ (l.head? == some 45) = parN l := by
  have hd : decB (parD l) = true := by unfold parOk at h; exact (Bool.and_eq_true _ _ ▸ h).1
  have ha := decB_all hd
  match l, h, hd, ha with
  | [], h, _, _ => exact absurd h (by decide)
  | c :: t, h, hd, ha =>
    refine ⟨by simp, ?_⟩
    by_cases h45 : c.toNat = 45
    · obtain rfl : c = 45 := u8_of (n := 45) h45 (by decide)
      obtain ⟨e1, e2⟩ := parD_minus t
      rw [e2] at ha
      refine ⟨fun x hx => ?_, ?_, ?_⟩
      · rcases List.mem_cons.1 hx with e | e
        · exact .inl e
        · exact .inr ((List.all_eq_true.1 ha) x e)
      · rw [e2, show fd (45 :: t) = fd t from by simp [fd], fd_digits ha]
      · rw [e1]; rfl
    · obtain ⟨e1, e2⟩ := parD_plain (t := t) h45
      rw [e2] at ha
      refine ⟨fun x hx => .inr ((List.all_eq_true.1 ha) x hx), ?_, ?_⟩
      · rw [e2, fd_digits ha]
      · rw [e1]
        have hne : c ≠ 45 := fun e => h45 (by rw [e]; rfl)
        show (some c == some (45 : UInt8)) = false
        simpa using hne
theorem par_fit {l : List UInt8} (h : parOk l = true) : fitZ (sgn (l.head? == some 45) (decV (fd l))) = parZ l ∧ fitE (sgn (l.head? == some 45) (decV (fd l))) = parE l := by
  obtain ⟨-, -, e1, e2⟩ := par_read h
  rw [e1, e2, fit_sgn.1, fit_sgn.2]
  unfold parZ parE
  rw [h, Bool.true_and, if_pos rfl]
  exact ⟨rfl, rfl⟩
theorem par_bad {l : List UInt8} (h : parOk l = false) : parZ l = 0 ∧ parE l = 6 := by
  unfold parZ parE
  rw [h]
  exact ⟨rfl, rfl⟩

set_option maxRecDepth 100000 in
set_option maxHeartbeats 4000000 in
theorem reads_long (l : List UInt8) (w : World) (hl : 300 < l.length) (hm : l.length ≤ maxLen) (ht : Tens w) :
    Calls Tryd.prog 9 #[.string ⟨l.toArray⟩] w fun e w' => e = .returned (.bool true) ∧ Below w.heap.size w w' := by
  have HT := Lib.hid ht
  have HB := Lib.hid (Below.refl w.heap.size w)
  have hl2 : decide ((300 : Int) < (l.length : Int)) = true := by simp; omega
  clear ht hl hm
  go_enter Tryd.func9, Tryd.ntmps9
  go_wp2_with (fail)
  refine (known_any _ (HT.out.below HB.out)).mono ?_
  rintro e wk ⟨rfl, qk⟩
  have HQ := Lib.hid (bstep HB.out qk)
  clear qk
  go_wp2_with (fail)
  go_ret
  exact ⟨rfl, HQ.out⟩
set_option maxRecDepth 100000 in
set_option maxHeartbeats 4000000 in
theorem reads_bad (l : List UInt8) (w : World) (hl : l.length ≤ 300) (hok : parOk l = false) (ht : Tens w) :
    Calls Tryd.prog 9 #[.string ⟨l.toArray⟩] w fun e w' => e = .returned (.bool true) ∧ Below w.heap.size w w' := by
  have HO := Lib.hid hok
  have HE := Lib.hid (par_bad hok)
  clear hok
  have HT := Lib.hid ht
  have HB := Lib.hid (Below.refl w.heap.size w)
  have hl2 : decide ((300 : Int) < (l.length : Int)) = false := by simp; omega
  have HL := Lib.hid hl
  clear ht hl
  go_enter Tryd.func9, Tryd.ntmps9
  go_wp2_with (fail)
  refine (parse_any l _ (Nat.le_trans HL.out (by omega))).mono ?_
  rintro e w_1 ⟨⟨yy, rfl, j1⟩, qq⟩
  obtain ⟨fVA, AVA, nVA, cVA, rfl, j1, -, -⟩ := j1.look
  have VA := Lib.hid (IntVar.new j1)
  have qa := bstep qq (below_alloc w_1 (.cells #[.bool fVA, .slice AVA nVA cVA] 24))
  have HB := Lib.hid (bstep HB.out qa)
  clear qq qa j1
  go_wp2_with (fail)
  generalize hW : (w_1.alloc (.cells #[.bool fVA, .slice AVA nVA cVA] 24)) = W_2 at *
  clear hW
  generalize w_1.heap.size = b_3 at *
  refine (form_any l _ HL.out).mono ?_
  rw [HO.out]
  rintro e w' ⟨rfl, rfl⟩
  have kVA0 := VA.out.cells.1
  have kVA1 := VA.out.cells.2
  go_wp2_with (fail)
  refine (same_law _ _ _ _ _ _ _ VA.out.2 (intIs_zero _ _)).mono ?_
  rw [HE.out.1, HE.out.2, sameB_self]
  rintro e w_4 ⟨rfl, qq⟩
  clear kVA0 kVA1
  have HB := Lib.hid (bstep HB.out qq)
  have VA := Lib.hid (VA.out.step qq)
  clear qq
  go_wp2_with (fail)
  refine (known_any _ (HT.out.below HB.out)).mono ?_
  rintro e wk ⟨rfl, qk⟩
  have HQ := Lib.hid (bstep HB.out qk)
  clear qk
  go_wp2_with (fail)
  go_ret
  exact ⟨rfl, HQ.out⟩
set_option maxRecDepth 100000 in
set_option maxHeartbeats 4000000 in
theorem reads_ok (l : List UInt8) (w : World) (hl : l.length ≤ 300) (hok : parOk l = true) (ht : Tens w) :
    Calls Tryd.prog 9 #[.string ⟨l.toArray⟩] w fun e w' => e = .returned (.bool true) ∧ Below w.heap.size w w' := by
  have HO := Lib.hid hok
  have HE := Lib.hid (par_fit hok)
  have HR := Lib.hid (par_read hok)
  clear hok
  have HT := Lib.hid ht
  have HB := Lib.hid (Below.refl w.heap.size w)
  have hl2 : decide ((300 : Int) < (l.length : Int)) = false := by simp; omega
  have HL := Lib.hid hl
  clear ht hl
  go_enter Tryd.func9, Tryd.ntmps9
  go_wp2_with (fail)
  refine (parse_any l _ (Nat.le_trans HL.out (by omega))).mono ?_
  rintro e w_1 ⟨⟨yy, rfl, j1⟩, qq⟩
  obtain ⟨fVA, AVA, nVA, cVA, rfl, j1, -, -⟩ := j1.look
  have VA := Lib.hid (IntVar.new j1)
  have qa := bstep qq (below_alloc w_1 (.cells #[.bool fVA, .slice AVA nVA cVA] 24))
  have HB := Lib.hid (bstep HB.out qa)
  clear qq qa j1
  go_wp2_with (fail)
  generalize hW : (w_1.alloc (.cells #[.bool fVA, .slice AVA nVA cVA] 24)) = W_2 at *
  clear hW
  generalize w_1.heap.size = b_3 at *
  refine (form_any l _ HL.out).mono ?_
  rw [HO.out]
  rintro e w' ⟨rfl, rfl⟩
  go_wp2_with (fail)
  refine (read_any l _ HR.out.1 HL.out HR.out.2.1).mono ?_
  rintro e w_4 ⟨⟨yy, rfl, jr⟩, qq⟩
  have HB := Lib.hid (bstep HB.out qq)
  have VA := Lib.hid (VA.out.step qq)
  have jr := Lib.hid jr
  clear qq
  go_wp2_with (fail)
  refine (limited_fit _ _ _ jr.out).mono ?_
  rintro e w_5 ⟨⟨yy, rfl, j1⟩, qq⟩
  obtain ⟨fVB, AVB, nVB, cVB, rfl, j1, -, -⟩ := j1.look
  have VB := Lib.hid (IntVar.new j1)
  have qa := bstep qq (below_alloc w_5 (.cells #[.bool fVB, .slice AVB nVB cVB] 24))
  have HB := Lib.hid (bstep HB.out qa)
  have VA := Lib.hid (VA.out.step qa)
  clear qq qa j1
  have kVA0 := VA.out.cells.1
  have kVA1 := VA.out.cells.2
  go_wp2_with (fail)
  generalize hW : (w_5.alloc (.cells #[.bool fVB, .slice AVB nVB cVB] 24)) = W_6 at *
  clear hW
  generalize w_5.heap.size = b_7 at *
  clear kVA0 kVA1
  refine (same_law _ _ _ _ _ _ _ VA.out.2 VB.out.2).mono ?_
  rw [HE.out.1, HE.out.2, sameB_self]
  rintro e w_8 ⟨rfl, qq⟩
  have HB := Lib.hid (bstep HB.out qq)
  have VA := Lib.hid (VA.out.step qq)
  have VB := Lib.hid (VB.out.step qq)
  clear qq
  go_wp2_with (fail)
  refine (known_any _ (HT.out.below HB.out)).mono ?_
  rintro e wk ⟨rfl, qk⟩
  have HQ := Lib.hid (bstep HB.out qk)
  clear qk
  go_wp2_with (fail)
  go_ret
  exact ⟨rfl, HQ.out⟩
theorem reads_any (l : List UInt8) (w : World) (hm : l.length ≤ maxLen) (ht : Tens w) :
    Calls Tryd.prog 9 #[.string ⟨l.toArray⟩] w fun e w' => e = .returned (.bool true) ∧ Below w.heap.size w w' := by
  rcases Nat.lt_or_ge 300 l.length with h | h
  · exact reads_long l w h hm ht
  · cases hok : parOk l
    · exact reads_bad l w h hok ht
    · exact reads_ok l w h hok ht
end Go.Proofs.YtkofhjjfngnmmaaDoor
