/- The statement NumberValid: the walk. -/
import Derived.Test.YtkofhjjfngnmmaaDoorXSs1
namespace Go.Proofs.YtkofhjjfngnmmaaDoor
open Go.RowKit

theorem one_raw {w : World} {f : Bool} {A : Option Addr} {n c v : Nat} (h : RawIs w w.heap.size (.agg #[.bool f, .slice A n c]) f n v) :
    RawVar (w.alloc (.cells #[.bool f, .slice A n c] 24)) w.heap.size f A n c v ∧ Below w.heap.size w (w.alloc (.cells #[.bool f, .slice A n c] 24)) :=
  ⟨⟨Var.new w _ _, h.step (below_alloc w _)⟩, below_alloc w _⟩
theorem big2c (w : World) (f : Bool) (A : Option Addr) (n c : Nat) : (w.alloc (.cells #[.bool f, .slice A n c] 24)).cell? ⟨w.heap.size, 1, none⟩ = some (.slice A n c) :=
  ((Var.new w 24 #[.bool f, .slice A n c]).cell 1).trans rfl
/-- Eight bytes in a block, as an Int. -/
theorem int8 {w : World} {b : Nat} {T : TypeId} {z : Int} (b0 b1 b2 b3 b4 b5 b6 b7 : Int) (h : Var w b T #[.int .u8 b0, .int .u8 b1, .int .u8 b2, .int .u8 b3, .int .u8 b4, .int .u8 b5, .int .u8 b6, .int .u8 b7])
    (hl : blen z.natAbs = 8) (hb : be z.natAbs 8 = [b0, b1, b2, b3, b4, b5, b6, b7]) : IntIs w w.heap.size (.agg #[.bool (decide (z < 0)), .slice (some ⟨b, 0, none⟩) 8 8]) z := by
  refine ⟨_, 8, by rw [hl], by omega, by decide, fun _ => ⟨b, 0, rfl, h.lt, fun k hk => ?_⟩⟩
  rw [hl] at hk ⊢
  rw [hb, Nat.zero_add, h.cell]
  simp only [be_len] at hk
  match k, hk with
  | 0, _ => rfl
  | 1, _ => rfl
  | 2, _ => rfl
  | 3, _ => rfl
  | 4, _ => rfl
  | 5, _ => rfl
  | 6, _ => rfl
  | 7, _ => rfl
theorem least_be : blen (-9223372036854775808 : Int).natAbs = 8 ∧ be (-9223372036854775808 : Int).natAbs 8 = [128, 0, 0, 0, 0, 0, 0, 0] := by decide +kernel
theorem most_be : blen (9223372036854775807 : Int).natAbs = 8 ∧ be (9223372036854775807 : Int).natAbs 8 = [127, 255, 255, 255, 255, 255, 255, 255] := by decide +kernel
/-- The world behind the two bounds. -/
theorem bounds (w : World) (T T' : TypeId) : ∀ W, W = (((w.alloc (.cells #[.int .u8 128, .int .u8 0, .int .u8 0, .int .u8 0, .int .u8 0, .int .u8 0, .int .u8 0, .int .u8 0] T)).alloc (.cells #[.int .u8 127, .int .u8 255, .int .u8 255, .int .u8 255, .int .u8 255, .int .u8 255, .int .u8 255, .int .u8 255] T')).alloc
      (.cells #[.bool true, .slice (some ⟨w.heap.size, 0, none⟩) 8 8] 24)).alloc (.cells #[.bool false, .slice (some ⟨w.heap.size + 1, 0, none⟩) 8 8] 24) →
    IntVar W (w.heap.size + 2) true (some ⟨w.heap.size, 0, none⟩) 8 8 (-9223372036854775808) ∧ IntVar W (w.heap.size + 3) false (some ⟨w.heap.size + 1, 0, none⟩) 8 8 9223372036854775807 ∧ Below w.heap.size w W := by
  rintro W rfl
  obtain ⟨a1, a2, a3, a4, hb, hs⟩ := boxes4 w T T' 24 24 #[.int .u8 128, .int .u8 0, .int .u8 0, .int .u8 0, .int .u8 0, .int .u8 0, .int .u8 0, .int .u8 0] #[.int .u8 127, .int .u8 255, .int .u8 255, .int .u8 255, .int .u8 255, .int .u8 255, .int .u8 255, .int .u8 255] #[.bool true, .slice (some ⟨w.heap.size, 0, none⟩) 8 8] #[.bool false, .slice (some ⟨w.heap.size + 1, 0, none⟩) 8 8]
  exact ⟨⟨a3, int8 (z := -9223372036854775808) _ _ _ _ _ _ _ _ a1 least_be.1 least_be.2⟩, ⟨a4, int8 (z := 9223372036854775807) _ _ _ _ _ _ _ _ a2 most_be.1 most_be.2⟩, hb⟩
theorem cmpZ_lo {a b : Int} (h : a < b) : cmpZ a b = -1 := by unfold cmpZ; rw [if_pos h]
theorem cmpZ_hi {a b : Int} (h : b < a) : cmpZ a b = 1 := by unfold cmpZ; rw [if_neg (by omega), if_pos h]
theorem cmpZ_nn {a b : Int} (h : b ≤ a) : 0 ≤ cmpZ a b := by unfold cmpZ; rw [if_neg (by omega)]; split <;> omega
theorem cmpZ_np {a b : Int} (h : a ≤ b) : cmpZ a b ≤ 0 := by unfold cmpZ; split <;> (try split) <;> omega

set_option maxRecDepth 100000 in
set_option maxHeartbeats 8000000 in
theorem valid_big {f : Bool} {n v : Nat} (x : Value) (w : World) (hx : RawIs w w.heap.size x f n v) (h : 80 < n) (ht : Tens w) :
    Calls Tryd.prog 3 #[x] w fun e w' => e = .returned (.bool true) ∧ Below w.heap.size w w' := by
  obtain ⟨A, c, rfl, hx⟩ := hx.look
  obtain ⟨va, hb⟩ := one_raw hx
  have hq := below_alloc (w.alloc (.cells #[.bool f, .slice A n c] 24)) (.cells #[.bool f, .slice A n c] 24)
  have RA := Lib.hid (va.step hq)
  have HB := Lib.hid (bstep hb hq)
  have k0 := va.cells.1
  have k1 := va.cells.2
  have HG := big_one _ A n c _ (big2c (w.alloc (.cells #[.bool f, .slice A n c] 24)) f A n c)
  rw [decide_eq_true (by omega)] at HG
  have HG := Lib.hid HG
  have HT := Lib.hid ht
  clear hx va hb hq ht h
  go_enter Tryd.func3, Tryd.ntmps3
  go_wp2_with (fail)
  generalize hW : (w.alloc (.cells #[.bool f, .slice A n c] 24)).alloc (.cells #[.bool f, .slice A n c] 24) = W at *
  clear hW k0 k1
  have HG := HG.out
  simp only [show (w.alloc (.cells #[.bool f, .slice A n c] 24)).heap.size = w.heap.size + 1 from by simp] at HG
  refine HG.mono ?_
  rintro e w' ⟨rfl, rfl⟩
  clear HG
  go_wp2_with (fail)
  refine (known_any _ (HT.out.below HB.out)).mono ?_
  rintro e wk ⟨rfl, qk⟩
  have HQ := Lib.hid (bstep HB.out qk)
  clear qk
  go_wp2_with (fail)
  go_ret
  exact ⟨rfl, HQ.out⟩
set_option maxRecDepth 100000 in
set_option maxHeartbeats 8000000 in
theorem valid_bad {f : Bool} {n v : Nat} (x : Value) (w : World) (hx : RawIs w w.heap.size x f n v) (h0 : validB f n v = false) (h : n ≤ 80) (ht : Tens w) :
    Calls Tryd.prog 3 #[x] w fun e w' => e = .returned (.bool true) ∧ Below w.heap.size w w' := by
  have H0 := Lib.hid h0
  clear h0
  obtain ⟨A, c, rfl, hx⟩ := hx.look
  obtain ⟨va, hb⟩ := one_raw hx
  have hq := below_alloc (w.alloc (.cells #[.bool f, .slice A n c] 24)) (.cells #[.bool f, .slice A n c] 24)
  have RA := Lib.hid (va.step hq)
  have HB := Lib.hid (bstep hb hq)
  have k0 := va.cells.1
  have k1 := va.cells.2
  have HG := big_one _ A n c _ (big2c (w.alloc (.cells #[.bool f, .slice A n c] 24)) f A n c)
  rw [decide_eq_false (by omega)] at HG
  have HG := Lib.hid HG
  have HT := Lib.hid ht
  clear hx va hb hq ht h
  go_enter Tryd.func3, Tryd.ntmps3
  go_wp2_with (fail)
  generalize hW : (w.alloc (.cells #[.bool f, .slice A n c] 24)).alloc (.cells #[.bool f, .slice A n c] 24) = W at *
  clear hW k0 k1
  have HG := HG.out
  simp only [show (w.alloc (.cells #[.bool f, .slice A n c] 24)).heap.size = w.heap.size + 1 from by simp] at HG
  refine HG.mono ?_
  rintro e w' ⟨rfl, rfl⟩
  clear HG
  have kRA0 := RA.out.cells.1
  have kRA1 := RA.out.cells.2
  go_wp2_with (fail)
  refine (rvalid_is _ _ RA.out.2).mono ?_
  rw [H0.out]
  rintro e w_1 ⟨rfl, qq⟩
  clear kRA0 kRA1
  have HB := Lib.hid (bstep HB.out qq)
  have RA := Lib.hid (RA.out.step qq)
  clear qq
  have kRA0 := RA.out.cells.1
  have kRA1 := RA.out.cells.2
  go_wp2_with (fail)
  refine (value_bad _ _ RA.out.2 H0.out).mono ?_
  rintro e w_2 ⟨rfl, qq⟩
  clear kRA0 kRA1
  have HB := Lib.hid (bstep HB.out qq)
  have RA := Lib.hid (RA.out.step qq)
  clear qq
  have kRA0 := RA.out.cells.1
  have kRA1 := RA.out.cells.2
  go_wp2_with (fail)
  refine (neg_bad _ _ RA.out.2 H0.out).mono ?_
  rintro e w_3 ⟨⟨yy, rfl, j1⟩, qq⟩
  obtain ⟨fVN, AVN, nVN, cVN, rfl, j1, -, -⟩ := j1.look
  have VN := Lib.hid (IntVar.new j1)
  have qa := bstep qq (below_alloc w_3 (.cells #[.bool fVN, .slice AVN nVN cVN] 24))
  clear kRA0 kRA1
  have HB := Lib.hid (bstep HB.out qa)
  have RA := Lib.hid (RA.out.step qa)
  clear qq qa j1
  have kRA0 := RA.out.cells.1
  have kRA1 := RA.out.cells.2
  go_wp2_with (fail)
  generalize hW : (w_3.alloc (.cells #[.bool fVN, .slice AVN nVN cVN] 24)) = W_4 at *
  clear hW
  generalize w_3.heap.size = b_5 at *
  refine (nvalid_no _ _ RA.out.2 H0.out).mono ?_
  rintro e w_6 ⟨rfl, qq⟩
  clear kRA0 kRA1
  have HB := Lib.hid (bstep HB.out qq)
  have RA := Lib.hid (RA.out.step qq)
  have VN := Lib.hid (VN.out.step qq)
  clear qq
  have kRA0 := RA.out.cells.1
  have kRA1 := RA.out.cells.2
  have kVN0 := VN.out.cells.1
  have kVN1 := VN.out.cells.2
  go_wp2_with (fail)
  refine (sign_bad _ _ RA.out.2 H0.out).mono ?_
  rintro e w_7 ⟨rfl, qq⟩
  clear kRA0 kRA1 kVN0 kVN1
  have HB := Lib.hid (bstep HB.out qq)
  have RA := Lib.hid (RA.out.step qq)
  have VN := Lib.hid (VN.out.step qq)
  clear qq
  have kRA0 := RA.out.cells.1
  have kRA1 := RA.out.cells.2
  have kVN0 := VN.out.cells.1
  have kVN1 := VN.out.cells.2
  go_wp2_with (fail)
  refine (same_law _ _ 2 2 0 0 _ VN.out.2 (intIs_zero _ _)).mono ?_
  rw [sameB_self]
  rintro e w_8 ⟨rfl, qq⟩
  clear kRA0 kRA1 kVN0 kVN1
  have HB := Lib.hid (bstep HB.out qq)
  have RA := Lib.hid (RA.out.step qq)
  have VN := Lib.hid (VN.out.step qq)
  clear qq
  have kRA0 := RA.out.cells.1
  have kRA1 := RA.out.cells.2
  have kVN0 := VN.out.cells.1
  have kVN1 := VN.out.cells.2
  go_wp2_with (fail)
  refine (digits10_bad _ _ RA.out.2 H0.out).mono ?_
  rintro e w_9 ⟨rfl, qq⟩
  clear kRA0 kRA1 kVN0 kVN1
  have HB := Lib.hid (bstep HB.out qq)
  have RA := Lib.hid (RA.out.step qq)
  have VN := Lib.hid (VN.out.step qq)
  clear qq
  have kRA0 := RA.out.cells.1
  have kRA1 := RA.out.cells.2
  have kVN0 := VN.out.cells.1
  have kVN1 := VN.out.cells.2
  go_wp2_with (fail)
  refine (text_bad _ _ RA.out.2 H0.out).mono ?_
  rintro e w_10 ⟨rfl, qq⟩
  clear kRA0 kRA1 kVN0 kVN1
  have HB := Lib.hid (bstep HB.out qq)
  have RA := Lib.hid (RA.out.step qq)
  have VN := Lib.hid (VN.out.step qq)
  clear qq
  have kRA0 := RA.out.cells.1
  have kRA1 := RA.out.cells.2
  have kVN0 := VN.out.cells.1
  have kVN1 := VN.out.cells.2
  go_wp2_with (fail)
  refine (known_any _ (HT.out.below HB.out)).mono ?_
  rintro e wk ⟨rfl, qk⟩
  have HQ := Lib.hid (bstep HB.out qk)
  clear qk
  clear kRA0 kRA1 kVN0 kVN1
  go_wp2_with (fail)
  go_ret
  exact ⟨rfl, HQ.out⟩
set_option maxRecDepth 100000 in
set_option maxHeartbeats 8000000 in
theorem valid_lo (x : Value) (a : Int) (w : World) (hz : IntIs w w.heap.size x a) (h0 : blen a.natAbs ≤ 64) (hr : a < -9223372036854775808) (ht : Tens w) :
    Calls Tryd.prog 3 #[x] w fun e w' => e = .returned (.bool true) ∧ Below w.heap.size w w' := by
  have hx := hz.raw
  obtain ⟨f, hf⟩ : ∃ f, f = decide (a < 0) := ⟨_, rfl⟩
  obtain ⟨n, hn⟩ : ∃ n, n = blen a.natAbs := ⟨_, rfl⟩
  rw [← hf, ← hn] at hx
  have HZA := Lib.hid hz
  have HVA := Lib.hid (show validB f n a.natAbs = true by rw [hf, hn]; exact valid_of h0)
  have h : n ≤ 80 := by omega
  have H0 := Lib.hid h0
  have HV := Lib.hid (val_no (.inl hr))
  have hc1 := cmpZ_lo hr
  have HC1 := Lib.hid hc1
  clear hc1
  clear hz hf hn h0 hr
  obtain ⟨A, c, rfl, hx⟩ := hx.look
  obtain ⟨va, hb⟩ := one_raw hx
  have hq := below_alloc (w.alloc (.cells #[.bool f, .slice A n c] 24)) (.cells #[.bool f, .slice A n c] 24)
  have RA := Lib.hid (va.step hq)
  have HB := Lib.hid (bstep hb hq)
  have k0 := va.cells.1
  have k1 := va.cells.2
  have HG := big_one _ A n c _ (big2c (w.alloc (.cells #[.bool f, .slice A n c] 24)) f A n c)
  rw [decide_eq_false (by omega)] at HG
  have HG := Lib.hid HG
  have HT := Lib.hid ht
  clear hx va hb hq ht h
  go_enter Tryd.func3, Tryd.ntmps3
  go_wp2_with (fail)
  generalize hW : (w.alloc (.cells #[.bool f, .slice A n c] 24)).alloc (.cells #[.bool f, .slice A n c] 24) = W at *
  clear hW k0 k1
  have HG := HG.out
  simp only [show (w.alloc (.cells #[.bool f, .slice A n c] 24)).heap.size = w.heap.size + 1 from by simp] at HG
  refine HG.mono ?_
  rintro e w' ⟨rfl, rfl⟩
  clear HG
  have VA := Lib.hid (show IntVar W w.heap.size f A n c a from ⟨RA.out.1, HZA.out.step HB.out⟩)
  clear HZA
  have kVA0 := VA.out.cells.1
  have kVA1 := VA.out.cells.2
  go_wp2_with (fail)
  refine (rvalid_is _ _ RA.out.2).mono ?_
  rw [HVA.out]
  rintro e w_1 ⟨rfl, qq⟩
  clear kVA0 kVA1
  have HB := Lib.hid (bstep HB.out qq)
  have RA := Lib.hid (RA.out.step qq)
  have VA := Lib.hid (VA.out.step qq)
  clear qq
  have kVA0 := VA.out.cells.1
  have kVA1 := VA.out.cells.2
  go_wp2_with (fail)
  refine (value_int _ a _ VA.out.2 H0.out).mono ?_
  rw [HV.out.1, HV.out.2]
  rintro e w_2 ⟨rfl, qq⟩
  clear kVA0 kVA1
  have HB := Lib.hid (bstep HB.out qq)
  have RA := Lib.hid (RA.out.step qq)
  have VA := Lib.hid (VA.out.step qq)
  clear qq
  have kVA0 := VA.out.cells.1
  have kVA1 := VA.out.cells.2
  go_wp2_with (fail)
  refine (neg_int _ a _ VA.out.2 H0.out).mono ?_
  rintro e w_3 ⟨⟨yy, rfl, j1⟩, qq⟩
  obtain ⟨fVN, AVN, nVN, cVN, rfl, j1, -, -⟩ := j1.look
  have VN := Lib.hid (IntVar.new j1)
  have qa := bstep qq (below_alloc w_3 (.cells #[.bool fVN, .slice AVN nVN cVN] 24))
  clear kVA0 kVA1
  have HB := Lib.hid (bstep HB.out qa)
  have RA := Lib.hid (RA.out.step qa)
  have VA := Lib.hid (VA.out.step qa)
  clear qq qa j1
  have kVA0 := VA.out.cells.1
  have kVA1 := VA.out.cells.2
  go_wp2_with (fail)
  generalize hW : (w_3.alloc (.cells #[.bool fVN, .slice AVN nVN cVN] 24)) = W_4 at *
  clear hW
  generalize w_3.heap.size = b_5 at *
  refine (valid_int _ a _ VA.out.2 H0.out).mono ?_
  rintro e w_6 ⟨rfl, qq⟩
  clear kVA0 kVA1
  have HB := Lib.hid (bstep HB.out qq)
  have RA := Lib.hid (RA.out.step qq)
  have VA := Lib.hid (VA.out.step qq)
  have VN := Lib.hid (VN.out.step qq)
  clear qq
  obtain ⟨vl, vm, qa⟩ := bounds w_6 5 5 _ rfl
  have HB := Lib.hid (bstep HB.out qa)
  have RA := Lib.hid (RA.out.step qa)
  have VA := Lib.hid (VA.out.step qa)
  have VN := Lib.hid (VN.out.step qa)
  have VL := Lib.hid vl
  have VM := Lib.hid vm
  clear qa vl vm
  have kVA0 := VA.out.cells.1
  have kVA1 := VA.out.cells.2
  have kVL0 := VL.out.cells.1
  have kVL1 := VL.out.cells.2
  have kVM0 := VM.out.cells.1
  have kVM1 := VM.out.cells.2
  go_wp2_with (fail)
  clear kVA0 kVA1 kVL0 kVL1 kVM0 kVM1
  generalize hW : (((w_6.alloc (.cells #[.int .u8 128, .int .u8 0, .int .u8 0, .int .u8 0, .int .u8 0, .int .u8 0, .int .u8 0, .int .u8 0] 5)).alloc (.cells #[.int .u8 127, .int .u8 255, .int .u8 255, .int .u8 255, .int .u8 255, .int .u8 255, .int .u8 255, .int .u8 255] 5)).alloc (.cells #[.bool true, .slice (some ⟨w_6.heap.size, 0, none⟩) 8 8] 24)).alloc (.cells #[.bool false, .slice (some ⟨w_6.heap.size + 1, 0, none⟩) 8 8] 24) = WB at *
  clear hW
  generalize w_6.heap.size = bB at *
  refine (compare_int _ _ a _ _ VA.out.2 VL.out.2 (Nat.lt_of_le_of_lt H0.out (by omega)) (by rw [least_be.1]; omega)).mono ?_
  rw [HC1.out]
  rintro e w_7 ⟨rfl, qq⟩
  have HB := Lib.hid (bstep HB.out qq)
  have RA := Lib.hid (RA.out.step qq)
  have VA := Lib.hid (VA.out.step qq)
  have VN := Lib.hid (VN.out.step qq)
  have VL := Lib.hid (VL.out.step qq)
  have VM := Lib.hid (VM.out.step qq)
  clear qq
  have kVA0 := VA.out.cells.1
  have kVA1 := VA.out.cells.2
  have kVM0 := VM.out.cells.1
  have kVM1 := VM.out.cells.2
  go_wp2_with (fail)
  clear VL VM
  clear RA HVA
  clear kVA0 kVA1 kVM0 kVM1
  have ln : b_5 < w_7.heap.size := VN.out.1.lt
  have la : w.heap.size < w_7.heap.size := VA.out.1.lt
  go_cut [2] (fun s wx => s = .bool true ∧ Below w_7.heap.size w_7 wx)
  case first =>
    have a0 := VA.out.cells.1
    have a1 := VA.out.cells.2
    have b0 := VN.out.cells.1
    have b1 := VN.out.cells.2
    go_region_held3 (fun w' => w'.cell? ⟨w.heap.size, 0, none⟩ = some (.bool f) ∧ w'.cell? ⟨w.heap.size, 1, none⟩ = some (.slice A n c) ∧ w'.cell? ⟨b_5, 0, none⟩ = some (.bool fVN) ∧ w'.cell? ⟨b_5, 1, none⟩ = some (.slice AVN nVN cVN))
      ((first | exact keep4b (below_drew0 w_7) a0 a1 b0 b1 la ln | exact keep4b hb a0 a1 b0 b1 la ln))
      (first
        | (go_at_call 17; refine (sign_num _ a _ ?_ H0.out).mono ?_; exact VA.out.2; rintro e wz ⟨rfl, qz⟩; have hb := bstep (below_drew0 w_7) qz; clear qz)
        | (go_at_call 21; refine (compare_int _ _ a 0 _ (VA.out.2.step hb) (intIs_zero _ _) (Nat.lt_of_le_of_lt H0.out (by omega)) (by simp [blen_zero])).mono ?_; rintro e wy ⟨rfl, qy⟩; have hb := bstep hb qy; clear qy)
        | (go_at_call 24; refine (negative_int _ a _ (VA.out.2.step hb) (Nat.lt_of_le_of_lt H0.out (by omega))).mono ?_; rintro e wz ⟨⟨z, rfl, iz⟩, qz⟩; have hb := bstep hb qz; clear qz)
        | (go_at_call 18; refine (same_law _ _ 0 0 (-a) (-a) _ (VN.out.2.step hb) iz).mono ?_; rw [sameB_self]; rintro e wy ⟨rfl, qy⟩; have hb := bstep hb qy; clear qy)
        | (go_at_call 12; refine (known_any _ (HT.out.below (bstep HB.out hb))).mono ?_; rintro e wy ⟨rfl, qy⟩; have hb := bstep hb qy; clear qy))
    all_goals
      go_wp2_with (fail)
      go_meet
      exact ⟨rfl, hb⟩
  case rest =>
  obtain ⟨rfl, qc⟩ := hcut
  have HB := Lib.hid (bstep HB.out qc)
  clear qc
  go_wp2_with (fail)
  go_ret
  exact ⟨rfl, HB.out⟩
set_option maxRecDepth 100000 in
set_option maxHeartbeats 8000000 in
theorem valid_hi (x : Value) (a : Int) (w : World) (hz : IntIs w w.heap.size x a) (h0 : blen a.natAbs ≤ 64) (hr : 9223372036854775807 < a) (ht : Tens w) :
    Calls Tryd.prog 3 #[x] w fun e w' => e = .returned (.bool true) ∧ Below w.heap.size w w' := by
  have hx := hz.raw
  obtain ⟨f, hf⟩ : ∃ f, f = decide (a < 0) := ⟨_, rfl⟩
  obtain ⟨n, hn⟩ : ∃ n, n = blen a.natAbs := ⟨_, rfl⟩
  rw [← hf, ← hn] at hx
  have HZA := Lib.hid hz
  have HVA := Lib.hid (show validB f n a.natAbs = true by rw [hf, hn]; exact valid_of h0)
  have h : n ≤ 80 := by omega
  have H0 := Lib.hid h0
  have HV := Lib.hid (val_no (.inr hr))
  have HC1 := Lib.hid (show cmpZ a (-9223372036854775808) = 1 from cmpZ_hi (by omega))
  have HC2 := Lib.hid (cmpZ_hi hr)
  clear hz hf hn h0 hr
  obtain ⟨A, c, rfl, hx⟩ := hx.look
  obtain ⟨va, hb⟩ := one_raw hx
  have hq := below_alloc (w.alloc (.cells #[.bool f, .slice A n c] 24)) (.cells #[.bool f, .slice A n c] 24)
  have RA := Lib.hid (va.step hq)
  have HB := Lib.hid (bstep hb hq)
  have k0 := va.cells.1
  have k1 := va.cells.2
  have HG := big_one _ A n c _ (big2c (w.alloc (.cells #[.bool f, .slice A n c] 24)) f A n c)
  rw [decide_eq_false (by omega)] at HG
  have HG := Lib.hid HG
  have HT := Lib.hid ht
  clear hx va hb hq ht h
  go_enter Tryd.func3, Tryd.ntmps3
  go_wp2_with (fail)
  generalize hW : (w.alloc (.cells #[.bool f, .slice A n c] 24)).alloc (.cells #[.bool f, .slice A n c] 24) = W at *
  clear hW k0 k1
  have HG := HG.out
  simp only [show (w.alloc (.cells #[.bool f, .slice A n c] 24)).heap.size = w.heap.size + 1 from by simp] at HG
  refine HG.mono ?_
  rintro e w' ⟨rfl, rfl⟩
  clear HG
  have VA := Lib.hid (show IntVar W w.heap.size f A n c a from ⟨RA.out.1, HZA.out.step HB.out⟩)
  clear HZA
  have kVA0 := VA.out.cells.1
  have kVA1 := VA.out.cells.2
  go_wp2_with (fail)
  refine (rvalid_is _ _ RA.out.2).mono ?_
  rw [HVA.out]
  rintro e w_1 ⟨rfl, qq⟩
  clear kVA0 kVA1
  have HB := Lib.hid (bstep HB.out qq)
  have RA := Lib.hid (RA.out.step qq)
  have VA := Lib.hid (VA.out.step qq)
  clear qq
  have kVA0 := VA.out.cells.1
  have kVA1 := VA.out.cells.2
  go_wp2_with (fail)
  refine (value_int _ a _ VA.out.2 H0.out).mono ?_
  rw [HV.out.1, HV.out.2]
  rintro e w_2 ⟨rfl, qq⟩
  clear kVA0 kVA1
  have HB := Lib.hid (bstep HB.out qq)
  have RA := Lib.hid (RA.out.step qq)
  have VA := Lib.hid (VA.out.step qq)
  clear qq
  have kVA0 := VA.out.cells.1
  have kVA1 := VA.out.cells.2
  go_wp2_with (fail)
  refine (neg_int _ a _ VA.out.2 H0.out).mono ?_
  rintro e w_3 ⟨⟨yy, rfl, j1⟩, qq⟩
  obtain ⟨fVN, AVN, nVN, cVN, rfl, j1, -, -⟩ := j1.look
  have VN := Lib.hid (IntVar.new j1)
  have qa := bstep qq (below_alloc w_3 (.cells #[.bool fVN, .slice AVN nVN cVN] 24))
  clear kVA0 kVA1
  have HB := Lib.hid (bstep HB.out qa)
  have RA := Lib.hid (RA.out.step qa)
  have VA := Lib.hid (VA.out.step qa)
  clear qq qa j1
  have kVA0 := VA.out.cells.1
  have kVA1 := VA.out.cells.2
  go_wp2_with (fail)
  generalize hW : (w_3.alloc (.cells #[.bool fVN, .slice AVN nVN cVN] 24)) = W_4 at *
  clear hW
  generalize w_3.heap.size = b_5 at *
  refine (valid_int _ a _ VA.out.2 H0.out).mono ?_
  rintro e w_6 ⟨rfl, qq⟩
  clear kVA0 kVA1
  have HB := Lib.hid (bstep HB.out qq)
  have RA := Lib.hid (RA.out.step qq)
  have VA := Lib.hid (VA.out.step qq)
  have VN := Lib.hid (VN.out.step qq)
  clear qq
  obtain ⟨vl, vm, qa⟩ := bounds w_6 5 5 _ rfl
  have HB := Lib.hid (bstep HB.out qa)
  have RA := Lib.hid (RA.out.step qa)
  have VA := Lib.hid (VA.out.step qa)
  have VN := Lib.hid (VN.out.step qa)
  have VL := Lib.hid vl
  have VM := Lib.hid vm
  clear qa vl vm
  have kVA0 := VA.out.cells.1
  have kVA1 := VA.out.cells.2
  have kVL0 := VL.out.cells.1
  have kVL1 := VL.out.cells.2
  have kVM0 := VM.out.cells.1
  have kVM1 := VM.out.cells.2
  go_wp2_with (fail)
  clear kVA0 kVA1 kVL0 kVL1 kVM0 kVM1
  generalize hW : (((w_6.alloc (.cells #[.int .u8 128, .int .u8 0, .int .u8 0, .int .u8 0, .int .u8 0, .int .u8 0, .int .u8 0, .int .u8 0] 5)).alloc (.cells #[.int .u8 127, .int .u8 255, .int .u8 255, .int .u8 255, .int .u8 255, .int .u8 255, .int .u8 255, .int .u8 255] 5)).alloc (.cells #[.bool true, .slice (some ⟨w_6.heap.size, 0, none⟩) 8 8] 24)).alloc (.cells #[.bool false, .slice (some ⟨w_6.heap.size + 1, 0, none⟩) 8 8] 24) = WB at *
  clear hW
  generalize w_6.heap.size = bB at *
  refine (compare_int _ _ a _ _ VA.out.2 VL.out.2 (Nat.lt_of_le_of_lt H0.out (by omega)) (by rw [least_be.1]; omega)).mono ?_
  rw [HC1.out]
  rintro e w_7 ⟨rfl, qq⟩
  have HB := Lib.hid (bstep HB.out qq)
  have RA := Lib.hid (RA.out.step qq)
  have VA := Lib.hid (VA.out.step qq)
  have VN := Lib.hid (VN.out.step qq)
  have VL := Lib.hid (VL.out.step qq)
  have VM := Lib.hid (VM.out.step qq)
  clear qq
  have kVA0 := VA.out.cells.1
  have kVA1 := VA.out.cells.2
  have kVM0 := VM.out.cells.1
  have kVM1 := VM.out.cells.2
  go_wp2_with (fail)
  refine (compare_int _ _ a _ _ VA.out.2 VM.out.2 (Nat.lt_of_le_of_lt H0.out (by omega)) (by rw [most_be.1]; omega)).mono ?_
  rw [HC2.out]
  rintro e w_8 ⟨rfl, qq⟩
  clear kVA0 kVA1 kVM0 kVM1
  have HB := Lib.hid (bstep HB.out qq)
  have RA := Lib.hid (RA.out.step qq)
  have VA := Lib.hid (VA.out.step qq)
  have VN := Lib.hid (VN.out.step qq)
  have VL := Lib.hid (VL.out.step qq)
  have VM := Lib.hid (VM.out.step qq)
  clear qq
  have kVA0 := VA.out.cells.1
  have kVA1 := VA.out.cells.2
  have kVN0 := VN.out.cells.1
  have kVN1 := VN.out.cells.2
  go_wp2_with (fail)
  clear VL VM
  clear RA HVA
  clear kVA0 kVA1 kVN0 kVN1
  have ln : b_5 < w_8.heap.size := VN.out.1.lt
  have la : w.heap.size < w_8.heap.size := VA.out.1.lt
  go_cut [2] (fun s wx => s = .bool true ∧ Below w_8.heap.size w_8 wx)
  case first =>
    have a0 := VA.out.cells.1
    have a1 := VA.out.cells.2
    have b0 := VN.out.cells.1
    have b1 := VN.out.cells.2
    go_region_held3 (fun w' => w'.cell? ⟨w.heap.size, 0, none⟩ = some (.bool f) ∧ w'.cell? ⟨w.heap.size, 1, none⟩ = some (.slice A n c) ∧ w'.cell? ⟨b_5, 0, none⟩ = some (.bool fVN) ∧ w'.cell? ⟨b_5, 1, none⟩ = some (.slice AVN nVN cVN))
      ((first | exact keep4b (below_drew0 w_8) a0 a1 b0 b1 la ln | exact keep4b hb a0 a1 b0 b1 la ln))
      (first
        | (go_at_call 17; refine (sign_num _ a _ ?_ H0.out).mono ?_; exact VA.out.2; rintro e wz ⟨rfl, qz⟩; have hb := bstep (below_drew0 w_8) qz; clear qz)
        | (go_at_call 21; refine (compare_int _ _ a 0 _ (VA.out.2.step hb) (intIs_zero _ _) (Nat.lt_of_le_of_lt H0.out (by omega)) (by simp [blen_zero])).mono ?_; rintro e wy ⟨rfl, qy⟩; have hb := bstep hb qy; clear qy)
        | (go_at_call 24; refine (negative_int _ a _ (VA.out.2.step hb) (Nat.lt_of_le_of_lt H0.out (by omega))).mono ?_; rintro e wz ⟨⟨z, rfl, iz⟩, qz⟩; have hb := bstep hb qz; clear qz)
        | (go_at_call 18; refine (same_law _ _ 0 0 (-a) (-a) _ (VN.out.2.step hb) iz).mono ?_; rw [sameB_self]; rintro e wy ⟨rfl, qy⟩; have hb := bstep hb qy; clear qy)
        | (go_at_call 12; refine (known_any _ (HT.out.below (bstep HB.out hb))).mono ?_; rintro e wy ⟨rfl, qy⟩; have hb := bstep hb qy; clear qy))
    all_goals
      go_wp2_with (fail)
      go_meet
      exact ⟨rfl, hb⟩
  case rest =>
  obtain ⟨rfl, qc⟩ := hcut
  have HB := Lib.hid (bstep HB.out qc)
  clear qc
  go_wp2_with (fail)
  go_ret
  exact ⟨rfl, HB.out⟩
set_option maxRecDepth 100000 in
set_option maxHeartbeats 8000000 in
theorem valid_in (x : Value) (a : Int) (w : World) (hz : IntIs w w.heap.size x a) (h0 : blen a.natAbs ≤ 64) (hr : -9223372036854775808 ≤ a ∧ a ≤ 9223372036854775807) (ht : Tens w) :
    Calls Tryd.prog 3 #[x] w fun e w' => e = .returned (.bool true) ∧ Below w.heap.size w w' := by
  have hx := hz.raw
  obtain ⟨f, hf⟩ : ∃ f, f = decide (a < 0) := ⟨_, rfl⟩
  obtain ⟨n, hn⟩ : ∃ n, n = blen a.natAbs := ⟨_, rfl⟩
  rw [← hf, ← hn] at hx
  have HZA := Lib.hid hz
  have HVA := Lib.hid (show validB f n a.natAbs = true by rw [hf, hn]; exact valid_of h0)
  have h : n ≤ 80 := by omega
  have H0 := Lib.hid h0
  have HV := Lib.hid (val_yes hr)
  have hc1 := cmpZ_nn hr.1
  have hc2 := cmpZ_np hr.2
  generalize hg1 : cmpZ a (-9223372036854775808) = c1 at *
  generalize hg2 : cmpZ a 9223372036854775807 = c2 at *
  have HC1 := Lib.hid hg1
  have HC2 := Lib.hid hg2
  have hd1 : decide (c1 < 0) = false := by simp; omega
  have hd2 : decide (0 < c2) = false := by simp; omega
  have HR := Lib.hid hr
  clear hg1 hg2
  clear hz hf hn h0 hr
  obtain ⟨A, c, rfl, hx⟩ := hx.look
  obtain ⟨va, hb⟩ := one_raw hx
  have hq := below_alloc (w.alloc (.cells #[.bool f, .slice A n c] 24)) (.cells #[.bool f, .slice A n c] 24)
  have RA := Lib.hid (va.step hq)
  have HB := Lib.hid (bstep hb hq)
  have k0 := va.cells.1
  have k1 := va.cells.2
  have HG := big_one _ A n c _ (big2c (w.alloc (.cells #[.bool f, .slice A n c] 24)) f A n c)
  rw [decide_eq_false (by omega)] at HG
  have HG := Lib.hid HG
  have HT := Lib.hid ht
  clear hx va hb hq ht h
  go_enter Tryd.func3, Tryd.ntmps3
  go_wp2_with (fail)
  generalize hW : (w.alloc (.cells #[.bool f, .slice A n c] 24)).alloc (.cells #[.bool f, .slice A n c] 24) = W at *
  clear hW k0 k1
  have HG := HG.out
  simp only [show (w.alloc (.cells #[.bool f, .slice A n c] 24)).heap.size = w.heap.size + 1 from by simp] at HG
  refine HG.mono ?_
  rintro e w' ⟨rfl, rfl⟩
  clear HG
  have VA := Lib.hid (show IntVar W w.heap.size f A n c a from ⟨RA.out.1, HZA.out.step HB.out⟩)
  clear HZA
  have kVA0 := VA.out.cells.1
  have kVA1 := VA.out.cells.2
  go_wp2_with (fail)
  refine (rvalid_is _ _ RA.out.2).mono ?_
  rw [HVA.out]
  rintro e w_1 ⟨rfl, qq⟩
  clear kVA0 kVA1
  have HB := Lib.hid (bstep HB.out qq)
  have RA := Lib.hid (RA.out.step qq)
  have VA := Lib.hid (VA.out.step qq)
  clear qq
  have kVA0 := VA.out.cells.1
  have kVA1 := VA.out.cells.2
  go_wp2_with (fail)
  refine (value_int _ a _ VA.out.2 H0.out).mono ?_
  rw [HV.out.1, HV.out.2]
  rintro e w_2 ⟨rfl, qq⟩
  clear kVA0 kVA1
  have HB := Lib.hid (bstep HB.out qq)
  have RA := Lib.hid (RA.out.step qq)
  have VA := Lib.hid (VA.out.step qq)
  clear qq
  have kVA0 := VA.out.cells.1
  have kVA1 := VA.out.cells.2
  go_wp2_with (fail)
  refine (neg_int _ a _ VA.out.2 H0.out).mono ?_
  rintro e w_3 ⟨⟨yy, rfl, j1⟩, qq⟩
  obtain ⟨fVN, AVN, nVN, cVN, rfl, j1, -, -⟩ := j1.look
  have VN := Lib.hid (IntVar.new j1)
  have qa := bstep qq (below_alloc w_3 (.cells #[.bool fVN, .slice AVN nVN cVN] 24))
  clear kVA0 kVA1
  have HB := Lib.hid (bstep HB.out qa)
  have RA := Lib.hid (RA.out.step qa)
  have VA := Lib.hid (VA.out.step qa)
  clear qq qa j1
  have kVA0 := VA.out.cells.1
  have kVA1 := VA.out.cells.2
  go_wp2_with (fail)
  generalize hW : (w_3.alloc (.cells #[.bool fVN, .slice AVN nVN cVN] 24)) = W_4 at *
  clear hW
  generalize w_3.heap.size = b_5 at *
  refine (valid_int _ a _ VA.out.2 H0.out).mono ?_
  rintro e w_6 ⟨rfl, qq⟩
  clear kVA0 kVA1
  have HB := Lib.hid (bstep HB.out qq)
  have RA := Lib.hid (RA.out.step qq)
  have VA := Lib.hid (VA.out.step qq)
  have VN := Lib.hid (VN.out.step qq)
  clear qq
  obtain ⟨vl, vm, qa⟩ := bounds w_6 5 5 _ rfl
  have HB := Lib.hid (bstep HB.out qa)
  have RA := Lib.hid (RA.out.step qa)
  have VA := Lib.hid (VA.out.step qa)
  have VN := Lib.hid (VN.out.step qa)
  have VL := Lib.hid vl
  have VM := Lib.hid vm
  clear qa vl vm
  have kVA0 := VA.out.cells.1
  have kVA1 := VA.out.cells.2
  have kVL0 := VL.out.cells.1
  have kVL1 := VL.out.cells.2
  have kVM0 := VM.out.cells.1
  have kVM1 := VM.out.cells.2
  go_wp2_with (fail)
  clear kVA0 kVA1 kVL0 kVL1 kVM0 kVM1
  generalize hW : (((w_6.alloc (.cells #[.int .u8 128, .int .u8 0, .int .u8 0, .int .u8 0, .int .u8 0, .int .u8 0, .int .u8 0, .int .u8 0] 5)).alloc (.cells #[.int .u8 127, .int .u8 255, .int .u8 255, .int .u8 255, .int .u8 255, .int .u8 255, .int .u8 255, .int .u8 255] 5)).alloc (.cells #[.bool true, .slice (some ⟨w_6.heap.size, 0, none⟩) 8 8] 24)).alloc (.cells #[.bool false, .slice (some ⟨w_6.heap.size + 1, 0, none⟩) 8 8] 24) = WB at *
  clear hW
  generalize w_6.heap.size = bB at *
  refine (compare_int _ _ a _ _ VA.out.2 VL.out.2 (Nat.lt_of_le_of_lt H0.out (by omega)) (by rw [least_be.1]; omega)).mono ?_
  rw [HC1.out]
  rintro e w_7 ⟨rfl, qq⟩
  have HB := Lib.hid (bstep HB.out qq)
  have RA := Lib.hid (RA.out.step qq)
  have VA := Lib.hid (VA.out.step qq)
  have VN := Lib.hid (VN.out.step qq)
  have VL := Lib.hid (VL.out.step qq)
  have VM := Lib.hid (VM.out.step qq)
  clear qq
  have kVA0 := VA.out.cells.1
  have kVA1 := VA.out.cells.2
  have kVM0 := VM.out.cells.1
  have kVM1 := VM.out.cells.2
  go_wp2_with (fail)
  refine (compare_int _ _ a _ _ VA.out.2 VM.out.2 (Nat.lt_of_le_of_lt H0.out (by omega)) (by rw [most_be.1]; omega)).mono ?_
  rw [HC2.out]
  rintro e w_8 ⟨rfl, qq⟩
  clear kVA0 kVA1 kVM0 kVM1
  have HB := Lib.hid (bstep HB.out qq)
  have RA := Lib.hid (RA.out.step qq)
  have VA := Lib.hid (VA.out.step qq)
  have VN := Lib.hid (VN.out.step qq)
  have VL := Lib.hid (VL.out.step qq)
  have VM := Lib.hid (VM.out.step qq)
  clear qq
  have kVA0 := VA.out.cells.1
  have kVA1 := VA.out.cells.2
  have kVN0 := VN.out.cells.1
  have kVN1 := VN.out.cells.2
  go_wp2_with (fail)
  clear VL VM
  clear RA HVA
  clear kVA0 kVA1 kVN0 kVN1
  go_cut [90] (fun s wx => s = .bool false ∧ Below w_8.heap.size w_8 wx)
  case first =>
    go_region_held3 (fun w' => w'.cell? ⟨w.heap.size, 0, none⟩ = some (.bool f) ∧ w'.cell? ⟨w.heap.size, 1, none⟩ = some (.slice A n c))
      ((first | exact VA.out.cells' (below_drew0 w_8) | exact VA.out.cells' hb | exact VA.out.cells' (below_drew0 _)))
      (first
        | (go_at_call 23; refine (of_int a _ HR.out.1 HR.out.2).mono ?_; rintro e wz ⟨⟨z, rfl, iz⟩, qz⟩; have hb := bstep (below_drew0 w_8) qz; clear qz)
        | (go_at_call 22; refine (same_int _ _ a a _ iz (VA.out.2.step hb)).mono ?_; rw [decide_eq_true rfl]; rintro e wy ⟨rfl, qy⟩; have hb := bstep hb qy; clear qy))
    all_goals
      go_wp2_with (fail)
      go_meet
      exact ⟨rfl, hb⟩
  case rest =>
  obtain ⟨rfl, qc⟩ := hcut
  have HB := Lib.hid (bstep HB.out qc)
  have VA := Lib.hid (VA.out.step qc)
  have VN := Lib.hid (VN.out.step qc)
  clear qc
  go_wp2_with (fail)
  generalize wc = wcc at *
  have ln : b_5 < wcc.heap.size := VN.out.1.lt
  have la : w.heap.size < wcc.heap.size := VA.out.1.lt
  go_cut [2] (fun s wx => s = .bool true ∧ Below wcc.heap.size wcc wx)
  case first =>
    have a0 := VA.out.cells.1
    have a1 := VA.out.cells.2
    have b0 := VN.out.cells.1
    have b1 := VN.out.cells.2
    go_region_held3 (fun w' => w'.cell? ⟨w.heap.size, 0, none⟩ = some (.bool f) ∧ w'.cell? ⟨w.heap.size, 1, none⟩ = some (.slice A n c) ∧ w'.cell? ⟨b_5, 0, none⟩ = some (.bool fVN) ∧ w'.cell? ⟨b_5, 1, none⟩ = some (.slice AVN nVN cVN))
      ((first | exact keep4b (below_drew0 wcc) a0 a1 b0 b1 la ln | exact keep4b hb a0 a1 b0 b1 la ln))
      (first
        | (go_at_call 17; refine (sign_num _ a _ ?_ H0.out).mono ?_; exact VA.out.2; rintro e wz ⟨rfl, qz⟩; have hb := bstep (below_drew0 wcc) qz; clear qz)
        | (go_at_call 21; refine (compare_int _ _ a 0 _ (VA.out.2.step hb) (intIs_zero _ _) (Nat.lt_of_le_of_lt H0.out (by omega)) (by simp [blen_zero])).mono ?_; rintro e wy ⟨rfl, qy⟩; have hb := bstep hb qy; clear qy)
        | (go_at_call 24; refine (negative_int _ a _ (VA.out.2.step hb) (Nat.lt_of_le_of_lt H0.out (by omega))).mono ?_; rintro e wz ⟨⟨z, rfl, iz⟩, qz⟩; have hb := bstep hb qz; clear qz)
        | (go_at_call 18; refine (same_law _ _ 0 0 (-a) (-a) _ (VN.out.2.step hb) iz).mono ?_; rw [sameB_self]; rintro e wy ⟨rfl, qy⟩; have hb := bstep hb qy; clear qy)
        | (go_at_call 12; refine (known_any _ (HT.out.below (bstep HB.out hb))).mono ?_; rintro e wy ⟨rfl, qy⟩; have hb := bstep hb qy; clear qy))
    all_goals
      go_wp2_with (fail)
      go_meet
      exact ⟨rfl, hb⟩
  case rest =>
  obtain ⟨rfl, qc⟩ := hcut
  have HB := Lib.hid (bstep HB.out qc)
  clear qc
  go_wp2_with (fail)
  go_ret
  exact ⟨rfl, HB.out⟩
theorem valid_any {f : Bool} {n v : Nat} (x : Value) (w : World) (hx : RawIs w w.heap.size x f n v) (hv : v < 256 ^ n) (ht : Tens w) :
    Calls Tryd.prog 3 #[x] w fun e w' => e = .returned (.bool true) ∧ Below w.heap.size w w' := by
  rcases Nat.lt_or_ge 80 n with hn | hn
  · exact valid_big x w hx hn ht
  · cases hb : validB f n v
    · exact valid_bad x w hx hb hn ht
    · obtain ⟨a, ha, h64⟩ := hx.int hv hb
      rcases Int.lt_or_le a (-9223372036854775808) with h1 | h1
      · exact valid_lo x a w ha h64 h1 ht
      · rcases Int.lt_or_le 9223372036854775807 a with h2 | h2
        · exact valid_hi x a w ha h64 h2 ht
        · exact valid_in x a w ha h64 ⟨h1, h2⟩ ht
end Go.Proofs.YtkofhjjfngnmmaaDoor
