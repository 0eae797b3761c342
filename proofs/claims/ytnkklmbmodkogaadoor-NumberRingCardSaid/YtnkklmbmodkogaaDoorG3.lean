/- The reference's Product, Sum, Compare, Limited, Same. The reference's Same, Compare, Limited, Valid, Of; the statements' same and big. The reference's Same. The reference's Compare, Limited, Valid. The reference's Of. Valid, of the reference and of the program. Plain arithmetic: bytes inside limbs. No walk. -/
import Derived.Test.YtnkklmbmodkogaaDoorG2
import Derived.Lib.BufferRead
import Derived.Laws.BitsAllLaws
/-! R8 -/
namespace Go.Proofs.YtnkklmbmodkogaaDoor
open Go.RowKit

theorem sgn_self (z : Int) : sgn (decide (z < 0)) z.natAbs = z := by
  by_cases h : z < 0
  · simp [h, sgn]; omega
  · simp [h, sgn]; omega
theorem sgn_mul (z z' : Int) : sgn (decide (z < 0) != decide (z' < 0)) (z.natAbs * z'.natAbs) = z * z' := by
  have h1 := sgn_self z
  have h2 := sgn_self z'
  generalize decide (z < 0) = f at *
  generalize decide (z' < 0) = f' at *
  rw [← h1, ← h2, sgn_abs, sgn_abs]
  cases f <;> cases f' <;> simp [sgn, Int.mul_neg, Int.neg_mul]
theorem blen_mul {u v b : Nat} (h : blen u + blen v ≤ b) : blen (u * v) ≤ b := by
  refine blen_le (Nat.lt_of_lt_of_le ?_ (Nat.pow_le_pow_right (by omega) h))
  rw [Nat.pow_add]
  rcases Nat.eq_zero_or_pos u with h0 | h0
  · subst h0; simp; exact Nat.mul_pos (Nat.pow_pos (by omega)) (Nat.pow_pos (by omega))
  · exact Nat.mul_lt_mul_of_lt_of_le (blen_hi u) (Nat.le_of_lt (blen_hi v)) (Nat.pow_pos (by omega))
theorem blen_add {u v b : Nat} (h : blen u + 1 ≤ b) (h' : blen v + 1 ≤ b) : blen (u + v) ≤ b := by
  refine blen_le ?_
  have e : (256 : Nat) ^ b = 256 * 256 ^ (b - 1) := by rw [Nat.mul_comm, ← Nat.pow_succ]; congr 1; omega
  have h1 := lt_of_blen (v := u) (n := b - 1) (by omega)
  have h2 := lt_of_blen (v := v) (n := b - 1) (by omega)
  omega
theorem blen_sub {u v b : Nat} (h : blen u ≤ b) : blen (u - v) ≤ b := blen_le (Nat.lt_of_le_of_lt (Nat.sub_le u v) (lt_of_blen h))

set_option maxHeartbeats 1000000 in
theorem product_int (x x' : Value) (z z' : Int) (w : World) (hx : IntIs w w.heap.size x z) (hx' : IntIs w w.heap.size x' z') (hz : blen z.natAbs < 1000) (hz' : blen z'.natAbs < 1000) :
    Calls Tryd.prog 32 #[x, x'] w (RetInt w (z * z')) := by
  have hm := blen_mul (u := z.natAbs) (v := z'.natAbs) (b := 2000) (by omega)
  have hm' : blen (z.natAbs * z'.natAbs) < 1000000 := by omega
  have HM := Lib.hid hm'
  have E := Lib.hid (sgn_mul z z')
  have hz : blen z.natAbs < 1000000 := by omega
  have hz' : blen z'.natAbs < 1000000 := by omega
  clear hm hm'
  obtain ⟨f, A, n, c, rfl, hx, hf, hn⟩ := hx.look
  obtain ⟨f', A', n', c', rfl, hx', hf', hn'⟩ := hx'.look
  have HF := Lib.hid hf
  have HF' := Lib.hid hf'
  have HZ := Lib.hid hz
  have HZ' := Lib.hid hz'
  obtain ⟨hv0, hv1, hv2, hbW, hsz⟩ := boxes3 w 24 24 24 #[.bool f, .slice A n c] #[.bool f', .slice A' n' c'] #[.bool false, .slice none 0 0]
  have hX := Lib.hid (hx.step hbW)
  have hX' := Lib.hid (hx'.step hbW)
  clear hx hx' hf hf' hn hn' hz hz'
  go_enter Tryd.func32, Tryd.ntmps32
  go_wp2_with fail
  generalize ((w.alloc (.cells #[.bool f, .slice A n c] 24)).alloc (.cells #[.bool f', .slice A' n' c'] 24)).alloc (.cells #[.bool false, .slice none 0 0] 24) = W at *
  have k0 := hv0.cell 0
  have k1 := hv0.cell 1
  have k2 := hv1.cell 0
  have k3 := hv1.cell 1
  simp only [List.getElem?_toArray, List.getElem?_cons_succ, List.getElem?_cons_zero] at k0 k1 k2 k3
  have HW := Lib.hid hbW
  have HV := Lib.hid hv2
  have hlt : w.heap.size < W.heap.size := by omega
  have hlt1 : w.heap.size + 1 < W.heap.size := by omega
  have hlt2 : w.heap.size + 2 < W.heap.size := by omega
  have n02 : ¬ w.heap.size = w.heap.size + 1 + 1 := by omega
  have n20 : ¬ w.heap.size + 1 + 1 = w.heap.size := by omega
  clear hv0 hv1 hv2 hbW
  rw [← HF.out, ← HF'.out] at E
  have E := Lib.hid (show sgn (!(f == f')) (z.natAbs * z'.natAbs) = z * z' from E.out)
  go_region_held3 (fun w' => w'.cell? ⟨w.heap.size, 0, none⟩ = some (.bool f) ∧ w'.cell? ⟨w.heap.size, 1, none⟩ = some (.slice A n c) ∧ w'.cell? ⟨w.heap.size + 1, 0, none⟩ = some (.bool f') ∧ w'.cell? ⟨w.heap.size + 1, 1, none⟩ = some (.slice A' n' c')) (first | exact ⟨by assumption, by assumption, by assumption, by assumption⟩ | go_keep)
    (first
      | (go_at_call_of 47 (Value.agg #[Value.bool f, Value.slice A n c]); refine (abs_int _ z _ (by exact hX.out) HZ.out).mono ?_; rintro e w1 ⟨⟨x1, rfl, hn1⟩, hq1⟩; have hc1 := undrew hq1; have k01 := kept_cell hc1 k0 hlt; have k11 := kept_cell hc1 k1 hlt; have k21 := kept_cell hc1 k2 hlt1; have k31 := kept_cell hc1 k3 hlt1)
      | (go_at_call_of 47 (Value.agg #[Value.bool f', Value.slice A' n' c']); refine (abs_int _ z' _ (by exact hX'.out.step hc1) HZ'.out).mono ?_; rintro e w2 ⟨⟨x2, rfl, hn2⟩, hq2⟩; have hc2 := hc1.trans (hq2.mono hc1.size); have k02 := kept_cell hc2 k0 hlt; have k12 := kept_cell hc2 k1 hlt; have k22 := kept_cell hc2 k2 hlt1; have k32 := kept_cell hc2 k3 hlt1; have hn1b := hn1.next hq2)
      | (go_at_call 55; refine (times_nat x1 x2 _ _ _ (by exact hn1b) (by exact hn2) HZ.out HZ'.out).mono ?_; rintro e w3 ⟨⟨x3, rfl, hn3⟩, hq3⟩; have hc3 := hc2.trans (hq3.mono hc2.size); have k03 := kept_cell hc3 k0 hlt; have k13 := kept_cell hc3 k1 hlt; have k23 := kept_cell hc3 k2 hlt1; have k33 := kept_cell hc3 k3 hlt1)
      | (go_at_call 48; refine (make_nat _ x3 _ _ (by exact hn3) HM.out).mono ?_; rintro e w4 ⟨⟨x4, rfl, hn4⟩, hq4⟩; have hc4 := hc3.trans (hq4.mono hc3.size); have k04 := kept_cell hc4 k0 hlt; have k14 := kept_cell hc4 k1 hlt; have k24 := kept_cell hc4 k2 hlt1; have k34 := kept_cell hc4 k3 hlt1; rw [E.out] at hn4; have hvr := HV.out.below hc4 hlt2; have s0 := hvr.cell 0; have s1 := hvr.cell 1; have t0 := hvr.free 0; have t1 := hvr.free 1; simp only [List.getElem?_toArray, List.getElem?_cons_succ, List.getElem?_cons_zero] at s0 s1; obtain ⟨f2, A2, n2, c2, rfl, hi3, hf2, hn2⟩ := hn4.look; clear hf2 hn2))
  have HX := Lib.hid (retInt_store hi3 hvr (HW.out.trans (hc4.mono (Nat.le_of_lt hlt))) (Nat.le_add_right _ _))
  clear hi3 hvr
  go_wp2
  exact bodyPost_ret (by simp [results, Tryd.results32, go_sem, s0, s1]) rfl HX.out

theorem sgn_add_same (f : Bool) (z z' : Int) (h : f = decide (z < 0)) (h' : f = decide (z' < 0)) : sgn f (z.natAbs + z'.natAbs) = z + z' := by
  have h1 := sgn_self z
  have h2 := sgn_self z'
  rw [← h] at h1
  rw [← h'] at h2
  generalize z.natAbs = u at *
  generalize z'.natAbs = v at *
  rw [← h1, ← h2]
  cases f <;> simp [sgn] <;> omega
theorem sgn_add_ge (f f' : Bool) (z z' : Int) (h : f = decide (z < 0)) (h' : f' = decide (z' < 0)) (hf : f ≠ f') (hv : z'.natAbs ≤ z.natAbs) : sgn f (z.natAbs - z'.natAbs) = z + z' := by
  have h1 := sgn_self z
  have h2 := sgn_self z'
  rw [← h] at h1
  rw [← h'] at h2
  generalize z.natAbs = u at *
  generalize z'.natAbs = v at *
  rw [← h1, ← h2]
  cases f <;> cases f' <;> simp [sgn] at hf ⊢ <;> omega
theorem sgn_add_lt (f f' : Bool) (z z' : Int) (h : f = decide (z < 0)) (h' : f' = decide (z' < 0)) (hf : f ≠ f') (hv : z.natAbs ≤ z'.natAbs) : sgn f' (z'.natAbs - z.natAbs) = z + z' := by
  rw [Int.add_comm]; exact sgn_add_ge f' f z' z h' h (Ne.symm hf) hv
theorem cmpN_nonneg {u v : Nat} (h : v ≤ u) : 0 ≤ cmpN u v := by unfold cmpN; split <;> (try split) <;> omega
theorem cmpN_neg {u v : Nat} (h : u < v) : cmpN u v < 0 := by rw [cmpN_lt h]; omega

set_option maxHeartbeats 1600000 in
theorem sum_int (x x' : Value) (z z' : Int) (w : World) (hx : IntIs w w.heap.size x z) (hx' : IntIs w w.heap.size x' z') (hz : blen z.natAbs < 1000) (hz' : blen z'.natAbs < 1000) :
    Calls Tryd.prog 31 #[x, x'] w (RetInt w (z + z')) := by
  have hz0 := hz
  have hz0' := hz'
  have hz : blen z.natAbs < 1000000 := by omega
  have hz' : blen z'.natAbs < 1000000 := by omega
  obtain ⟨f, A, n, c, rfl, hx, hf, hn⟩ := hx.look
  obtain ⟨f', A', n', c', rfl, hx', hf', hn'⟩ := hx'.look
  have HF := Lib.hid hf
  have HF' := Lib.hid hf'
  have HZ := Lib.hid hz
  have HZ' := Lib.hid hz'
  obtain ⟨hv0, hv1, hv2, hbW, hsz⟩ := boxes3 w 24 24 24 #[.bool f, .slice A n c] #[.bool f', .slice A' n' c'] #[.bool false, .slice none 0 0]
  have hX := Lib.hid (hx.step hbW)
  have hX' := Lib.hid (hx'.step hbW)
  clear hx hx' hf hf' hn hn' hz hz'
  go_enter Tryd.func31, Tryd.ntmps31
  go_wp2_with fail
  generalize ((w.alloc (.cells #[.bool f, .slice A n c] 24)).alloc (.cells #[.bool f', .slice A' n' c'] 24)).alloc (.cells #[.bool false, .slice none 0 0] 24) = W at *
  have k0 := hv0.cell 0
  have k1 := hv0.cell 1
  have k2 := hv1.cell 0
  have k3 := hv1.cell 1
  simp only [List.getElem?_toArray, List.getElem?_cons_succ, List.getElem?_cons_zero] at k0 k1 k2 k3
  have HW := Lib.hid hbW
  have HV := Lib.hid hv2
  have hlt : w.heap.size < W.heap.size := by omega
  have hlt1 : w.heap.size + 1 < W.heap.size := by omega
  have hlt2 : w.heap.size + 2 < W.heap.size := by omega
  have n02 : ¬ w.heap.size = w.heap.size + 1 + 1 := by omega
  have n20 : ¬ w.heap.size + 1 + 1 = w.heap.size := by omega
  clear hv0 hv1 hv2 hbW
  go_region_held3 (fun w' => w'.cell? ⟨w.heap.size, 0, none⟩ = some (.bool f) ∧ w'.cell? ⟨w.heap.size, 1, none⟩ = some (.slice A n c) ∧ w'.cell? ⟨w.heap.size + 1, 0, none⟩ = some (.bool f') ∧ w'.cell? ⟨w.heap.size + 1, 1, none⟩ = some (.slice A' n' c')) (first | exact ⟨by assumption, by assumption, by assumption, by assumption⟩ | go_keep)
    (first
      | (go_at_call_of 47 (Value.agg #[Value.bool f, Value.slice A n c]); refine (abs_int _ z _ (by exact hX.out) HZ.out).mono ?_; rintro e w1 ⟨⟨x1, rfl, hn1⟩, hq1⟩; have hc1 := undrew hq1; have k01 := kept_cell hc1 k0 hlt; have k11 := kept_cell hc1 k1 hlt; have k21 := kept_cell hc1 k2 hlt1; have k31 := kept_cell hc1 k3 hlt1)
      | (go_at_call_of 47 (Value.agg #[Value.bool f', Value.slice A' n' c']); refine (abs_int _ z' _ (by exact hX'.out.step hc1) HZ'.out).mono ?_; rintro e w2 ⟨⟨x2, rfl, hn2⟩, hq2⟩; have hc2 := hc1.trans (hq2.mono hc1.size); have k02 := kept_cell hc2 k0 hlt; have k12 := kept_cell hc2 k1 hlt; have k22 := kept_cell hc2 k2 hlt1; have k32 := kept_cell hc2 k3 hlt1; have hn1b := hn1.next hq2))
  clear k01 k11 k21 k31 hq1 hq2 hc1 hn1
  by_cases hff : f = f'
  · have hB : (f == f') = true := by simp [hff]
    have E := Lib.hid (sgn_add_same f z z' HF.out (hff.trans HF'.out))
    have HM := Lib.hid (show blen (z.natAbs + z'.natAbs) < 1000000 from Nat.lt_of_le_of_lt (blen_add (b := 1001) (by omega) (by omega)) (by omega))
    clear hff
    go_wp2
    go_region_held3 (fun w' => w'.cell? ⟨w.heap.size, 0, none⟩ = some (.bool f) ∧ w'.cell? ⟨w.heap.size, 1, none⟩ = some (.slice A n c) ∧ w'.cell? ⟨w.heap.size + 1, 0, none⟩ = some (.bool f') ∧ w'.cell? ⟨w.heap.size + 1, 1, none⟩ = some (.slice A' n' c')) (first | exact ⟨by assumption, by assumption, by assumption, by assumption⟩ | go_keep)
      (first
        | (go_at_call 53; refine (plus_nat x1 x2 _ _ _ (by exact hn1b) (by exact hn2) HZ.out HZ'.out).mono ?_; rintro e w3 ⟨⟨x3, rfl, hn3⟩, hq3⟩; have hc3 := hc2.trans ((undrew hq3).mono hc2.size); have k03 := kept_cell hc3 k0 hlt; have k13 := kept_cell hc3 k1 hlt; have k23 := kept_cell hc3 k2 hlt1; have k33 := kept_cell hc3 k3 hlt1)
        | (go_at_call 48; refine (make_nat _ x3 _ _ (by exact hn3) HM.out).mono ?_; rintro e w4 ⟨⟨x4, rfl, hn4⟩, hq4⟩; have hc4 := hc3.trans (hq4.mono hc3.size); have k04 := kept_cell hc4 k0 hlt; have k14 := kept_cell hc4 k1 hlt; have k24 := kept_cell hc4 k2 hlt1; have k34 := kept_cell hc4 k3 hlt1; rw [E.out] at hn4; have hvr := HV.out.below hc4 hlt2; have s0 := hvr.cell 0; have s1 := hvr.cell 1; have t0 := hvr.free 0; have t1 := hvr.free 1; simp only [List.getElem?_toArray, List.getElem?_cons_succ, List.getElem?_cons_zero] at s0 s1; obtain ⟨f2, A2, n2, c2, rfl, hi3, hf2, hn2⟩ := hn4.look; clear hf2 hn2))
    have HX := Lib.hid (retInt_store hi3 hvr (HW.out.trans (hc4.mono (Nat.le_of_lt hlt))) (Nat.le_add_right _ _))
    clear hi3 hvr
    go_wp2
    exact bodyPost_ret (by simp [results, Tryd.results31, go_sem, s0, s1]) rfl HX.out
  · have hB : (f == f') = false := by simp [hff]
    by_cases hv : z'.natAbs ≤ z.natAbs
    · have E := Lib.hid (sgn_add_ge f f' z z' HF.out HF'.out hff hv)
      have HM := Lib.hid (show blen (z.natAbs - z'.natAbs) < 1000000 from Nat.lt_of_le_of_lt (blen_sub (b := 1001) (by omega)) (by omega))
      have HC := cmpN_nonneg hv
      have HV' := Lib.hid hv
      clear hff hv
      go_wp2_with (go_at_call 46; refine (order_nat x1 x2 _ _ _ (by exact hn1b) (by exact hn2) HZ.out HZ'.out).mono ?_; rintro e w5 ⟨rfl, hq5⟩)
      have hc2 := hc2.trans (hq5.mono hc2.size)
      have m1 := hn1b.next hq5
      have m2 := hn2.next hq5
      have k02 := kept_cell hc2 k0 hlt
      have k12 := kept_cell hc2 k1 hlt
      have k22 := kept_cell hc2 k2 hlt1
      have k32 := kept_cell hc2 k3 hlt1
      go_wp2
      go_region_held3 (fun w' => w'.cell? ⟨w.heap.size, 0, none⟩ = some (.bool f) ∧ w'.cell? ⟨w.heap.size, 1, none⟩ = some (.slice A n c) ∧ w'.cell? ⟨w.heap.size + 1, 0, none⟩ = some (.bool f') ∧ w'.cell? ⟨w.heap.size + 1, 1, none⟩ = some (.slice A' n' c')) (first | exact ⟨by assumption, by assumption, by assumption, by assumption⟩ | go_keep)
        (first
          | (go_at_call 54; refine (minus_nat x1 x2 _ _ _ (by exact m1) (by exact m2) HZ.out HZ'.out HV'.out).mono ?_; rintro e w3 ⟨⟨x3, rfl, hn3⟩, hq3⟩; have hc3 := hc2.trans ((undrew hq3).mono hc2.size); have k03 := kept_cell hc3 k0 hlt; have k13 := kept_cell hc3 k1 hlt; have k23 := kept_cell hc3 k2 hlt1; have k33 := kept_cell hc3 k3 hlt1)
          | (go_at_call 48; refine (make_nat _ x3 _ _ (by exact hn3) HM.out).mono ?_; rintro e w4 ⟨⟨x4, rfl, hn4⟩, hq4⟩; have hc4 := hc3.trans (hq4.mono hc3.size); have k04 := kept_cell hc4 k0 hlt; have k14 := kept_cell hc4 k1 hlt; have k24 := kept_cell hc4 k2 hlt1; have k34 := kept_cell hc4 k3 hlt1; rw [E.out] at hn4; have hvr := HV.out.below hc4 hlt2; have s0 := hvr.cell 0; have s1 := hvr.cell 1; have t0 := hvr.free 0; have t1 := hvr.free 1; simp only [List.getElem?_toArray, List.getElem?_cons_succ, List.getElem?_cons_zero] at s0 s1; obtain ⟨f2, A2, n2, c2, rfl, hi3, hf2, hn2⟩ := hn4.look; clear hf2 hn2))
      have HX := Lib.hid (retInt_store hi3 hvr (HW.out.trans (hc4.mono (Nat.le_of_lt hlt))) (Nat.le_add_right _ _))
      clear hi3 hvr
      go_wp2
      exact bodyPost_ret (by simp [results, Tryd.results31, go_sem, s0, s1]) rfl HX.out
    · have E := Lib.hid (sgn_add_lt f f' z z' HF.out HF'.out hff (by omega))
      have HM := Lib.hid (show blen (z'.natAbs - z.natAbs) < 1000000 from Nat.lt_of_le_of_lt (blen_sub (b := 1001) (by omega)) (by omega))
      have HC := cmpN_neg (u := z.natAbs) (v := z'.natAbs) (by omega)
      have HV' := Lib.hid (show z.natAbs ≤ z'.natAbs by omega)
      clear hff hv
      go_wp2_with (go_at_call 46; refine (order_nat x1 x2 _ _ _ (by exact hn1b) (by exact hn2) HZ.out HZ'.out).mono ?_; rintro e w5 ⟨rfl, hq5⟩)
      have hc2 := hc2.trans (hq5.mono hc2.size)
      have m1 := hn1b.next hq5
      have m2 := hn2.next hq5
      have k02 := kept_cell hc2 k0 hlt
      have k12 := kept_cell hc2 k1 hlt
      have k22 := kept_cell hc2 k2 hlt1
      have k32 := kept_cell hc2 k3 hlt1
      go_wp2
      go_region_held3 (fun w' => w'.cell? ⟨w.heap.size, 0, none⟩ = some (.bool f) ∧ w'.cell? ⟨w.heap.size, 1, none⟩ = some (.slice A n c) ∧ w'.cell? ⟨w.heap.size + 1, 0, none⟩ = some (.bool f') ∧ w'.cell? ⟨w.heap.size + 1, 1, none⟩ = some (.slice A' n' c')) (first | exact ⟨by assumption, by assumption, by assumption, by assumption⟩ | go_keep)
        (first
          | (go_at_call 54; refine (minus_nat x2 x1 _ _ _ (by exact m2) (by exact m1) HZ'.out HZ.out HV'.out).mono ?_; rintro e w3 ⟨⟨x3, rfl, hn3⟩, hq3⟩; have hc3 := hc2.trans ((undrew hq3).mono hc2.size); have k03 := kept_cell hc3 k0 hlt; have k13 := kept_cell hc3 k1 hlt; have k23 := kept_cell hc3 k2 hlt1; have k33 := kept_cell hc3 k3 hlt1)
          | (go_at_call 48; refine (make_nat _ x3 _ _ (by exact hn3) HM.out).mono ?_; rintro e w4 ⟨⟨x4, rfl, hn4⟩, hq4⟩; have hc4 := hc3.trans (hq4.mono hc3.size); have k04 := kept_cell hc4 k0 hlt; have k14 := kept_cell hc4 k1 hlt; have k24 := kept_cell hc4 k2 hlt1; have k34 := kept_cell hc4 k3 hlt1; rw [E.out] at hn4; have hvr := HV.out.below hc4 hlt2; have s0 := hvr.cell 0; have s1 := hvr.cell 1; have t0 := hvr.free 0; have t1 := hvr.free 1; simp only [List.getElem?_toArray, List.getElem?_cons_succ, List.getElem?_cons_zero] at s0 s1; obtain ⟨f2, A2, n2, c2, rfl, hi3, hf2, hn2⟩ := hn4.look; clear hf2 hn2))
      have HX := Lib.hid (retInt_store hi3 hvr (HW.out.trans (hc4.mono (Nat.le_of_lt hlt))) (Nat.le_add_right _ _))
      clear hi3 hvr
      go_wp2
      exact bodyPost_ret (by simp [results, Tryd.results31, go_sem, s0, s1]) rfl HX.out
end Go.Proofs.YtnkklmbmodkogaaDoor

/-! R9 -/
namespace Go.Proofs.YtnkklmbmodkogaaDoor
open Go.RowKit

/-- The bytes as a string. -/
def strOf (ds : List Int) : ByteArray := ⟨(ds.map fun x => UInt8.ofNat x.toNat).toArray⟩
theorem conv_bys {w : World} {B n c : Nat} {A : Option Addr} {ds : List Int} (src : TypeId) (hs : Tryd.prog.underlying src = some (.slice 5)) (h : Bys w B A ds) (hb : Bytes ds) (hn : n = ds.length) :
    (convert src 9 (.slice A n c)).run Tryd.prog w = .ok (.string (strOf ds)) w := by
  subst hn
  cases ds with
  | nil =>
    cases A with
    | none => exact Lib.run_convert_nil_bytes w src 9 5 c hs Tryd.underlying5 Tryd.underlying9
    | some a => exact run_convert_bytes_back w src 9 5 a c [] hs Tryd.underlying5 Tryd.underlying9 (by intro j hj; simp at hj)
  | cons d ds =>
    obtain ⟨b, o, rfl, _, hcell⟩ := h (by simp)
    have := run_convert_bytes_back w src 9 5 ⟨b, o, none⟩ c ((d :: ds).map fun x => UInt8.ofNat x.toNat) hs Tryd.underlying5 Tryd.underlying9 ?_
    · simpa [strOf] using this
    · intro j hj
      have hj' : j < (d :: ds).length := by simpa using hj
      have e : (⟨b, o, none⟩ : Addr).add j = ⟨b, o + j, none⟩ := by unfold Addr.add; split <;> simp_all
      rw [e, hcell j hj', List.getElem_map, List.getElem?_eq_getElem hj', Option.getD_some]
      obtain ⟨h0, h1⟩ := hb _ (List.getElem_mem hj')
      obtain ⟨q, hq⟩ := Int.eq_ofNat_of_zero_le h0
      rw [hq] at h1 ⊢
      rw [Int.toNat_natCast, UInt8.toNat_ofNat_of_lt' (by show _ < 256; omega)]
theorem strOf_inj {ds es : List Int} (h : Bytes ds) (h' : Bytes es) (e : strOf ds = strOf es) : ds = es := by
  have e1 : (ds.map fun x => UInt8.ofNat x.toNat) = es.map fun x => UInt8.ofNat x.toNat := by
    have := congrArg (fun s : ByteArray => s.data.toList) e
    simpa [strOf] using this
  apply List.ext_getElem
  · simpa using congrArg List.length e1
  · intro k h1 h2
    have e2 := congrArg (fun l : List UInt8 => l[k]?) e1
    simp only [List.getElem?_map, List.getElem?_eq_getElem h1, List.getElem?_eq_getElem h2, Option.map_some, Option.some.injEq] at e2
    have e3 := congrArg UInt8.toNat e2
    obtain ⟨a0, a1⟩ := h _ (List.getElem_mem h1)
    obtain ⟨b0, b1⟩ := h' _ (List.getElem_mem h2)
    rw [UInt8.toNat_ofNat_of_lt' (by show _ < 256; omega), UInt8.toNat_ofNat_of_lt' (by show _ < 256; omega)] at e3
    omega
/-- The bytes without leading zeros are those of one number. -/
theorem be_inj {u v : Nat} (h : be u (blen u) = be v (blen v)) : u = v := by
  have hl : blen u = blen v := by simpa using congrArg List.length h
  rw [← hl] at h
  have hu := blen_hi u
  have hv := blen_hi v
  rw [← hl] at hv
  have key : ∀ k, k ≤ blen u → u % 256 ^ k = v % 256 ^ k := by
    intro k
    induction k with
    | zero => intro _; rw [Nat.pow_zero, Nat.mod_one, Nat.mod_one]
    | succ k ih =>
      intro hk
      have e := congrArg (fun l => l[blen u - 1 - k]?.getD 0) h
      simp only [be_get u (blen u) (blen u - 1 - k) (by omega), be_get v (blen u) (blen u - 1 - k) (by omega)] at e
      rw [show blen u - 1 - (blen u - 1 - k) = k from by omega] at e
      unfold byt at e
      rw [mod_pow_succ', mod_pow_succ', ih (by omega), Int.ofNat_inj.1 e]
  have := key (blen u) (Nat.le_refl _)
  rwa [Nat.mod_eq_of_lt hu, Nat.mod_eq_of_lt hv] at this
theorem strOf_toList (ds : List Int) : (strOf ds).toList = ds.map fun x => UInt8.ofNat x.toNat := by
  rw [ByteArray.toList_eq]; simp [strOf]
theorem strOf_eq {ds es : List Int} (h : Bytes ds) (h' : Bytes es) : ((strOf ds).toList == (strOf es).toList) = decide (ds = es) := by
  by_cases e : ds = es
  · subst e; simp
  · simp only [e, decide_false, beq_eq_false_iff_ne]
    intro e1
    rw [strOf_toList, strOf_toList] at e1
    exact e (strOf_inj h h' (by unfold strOf; rw [e1]))
theorem same_bool (z z' : Int) : (decide (z < 0) == decide (z' < 0) && (strOf (be z.natAbs (blen z.natAbs))).toList == (strOf (be z'.natAbs (blen z'.natAbs))).toList) = decide (z = z') := by
  rw [strOf_eq (be_bytes _ _) (be_bytes _ _)]
  by_cases h : z = z'
  · subst h; simp
  · simp only [h, decide_false, Bool.and_eq_false_iff, beq_eq_false_iff_ne, decide_eq_false_iff_not]
    by_cases hd : decide (z < 0) = decide (z' < 0)
    · right
      intro e
      have := be_inj e
      have hd := decide_eq_decide.1 hd
      omega
    · left; exact hd
end Go.Proofs.YtnkklmbmodkogaaDoor

/-! R10 -/
namespace Go.Proofs.YtnkklmbmodkogaaDoor
open Go.RowKit

theorem IntIs.open_ {w : World} {B : Nat} {f : Bool} {A : Option Addr} {n c : Nat} {z : Int} (h : IntIs w B (.agg #[.bool f, .slice A n c]) z) :
    f = decide (z < 0) ∧ n = blen z.natAbs ∧ n ≤ c ∧ c ≤ maxLen ∧ Bys w B A (be z.natAbs (blen z.natAbs)) := by
  obtain ⟨D, q, e, p1, p2, p3⟩ := h
  simp only [Value.agg.injEq, Array.mk.injEq, List.cons.injEq, Value.bool.injEq, Value.slice.injEq, and_true] at e
  obtain ⟨rfl, rfl, rfl, rfl⟩ := e
  exact ⟨rfl, rfl, p1, p2, p3⟩

set_option maxHeartbeats 1000000 in
theorem same_int (x x' : Value) (z z' : Int) (w : World) (hx : IntIs w w.heap.size x z) (hx' : IntIs w w.heap.size x' z') :
    Calls Tryd.prog 22 #[x, x'] w fun e w' => e = .returned (.bool (decide (z = z'))) ∧ Below w.heap.size w w' := by
  have hE := same_bool z z'
  have hz : True := trivial
  have hz' : True := trivial
  obtain ⟨f, A, n, c, rfl, hx, hf, hn⟩ := hx.look
  obtain ⟨f', A', n', c', rfl, hx', hf', hn'⟩ := hx'.look
  have HF := Lib.hid hf
  have HF' := Lib.hid hf'
  obtain ⟨hv0, hv1, hbW, hsz⟩ := boxes2 w 24 24 #[.bool f, .slice A n c] #[.bool f', .slice A' n' c']
  have hX := Lib.hid (hx.step hbW)
  have hX' := Lib.hid (hx'.step hbW)
  have HW := Lib.hid hbW
  clear hx hx' hf hf' hn hn' hz hz' hv0 hv1 hbW hsz
  obtain ⟨-, e1, -, -, b1⟩ := hX.out.open_
  obtain ⟨-, e2, -, -, b2⟩ := hX'.out.open_
  have c1 := conv_bys (c := c) (n := n) 22 Tryd.underlying22 b1 (be_bytes _ _) (by simpa using e1)
  have c2 := conv_bys (c := c') (n := n') 22 Tryd.underlying22 b2 (be_bytes _ _) (by simpa using e2)
  rw [← HF.out, ← HF'.out] at hE
  generalize strOf (be z.natAbs (blen z.natAbs)) = s1 at *
  generalize strOf (be z'.natAbs (blen z'.natAbs)) = s2 at *
  have E := Lib.hid hE
  clear hE e1 e2 b1 b2 hX hX' HF HF'
  cases f <;> cases f'
  all_goals
    go_enter Tryd.func22, Tryd.ntmps22
    go_wp2
    go_ret
    exact ⟨ret_b (by rw [← E.out]; rfl), HW.out⟩
end Go.Proofs.YtnkklmbmodkogaaDoor

/-! R11 -/
namespace Go.Proofs.YtnkklmbmodkogaaDoor
open Go.RowKit

def cmpZ (z z' : Int) : Int := if z < z' then -1 else if z' < z then 1 else 0
theorem cmpZ_neg {z z' : Int} (h : true = decide (z < 0)) (h' : true = decide (z' < 0)) : cmpN z'.natAbs z.natAbs = cmpZ z z' := by
  have := of_decide_eq_true h.symm; have := of_decide_eq_true h'.symm
  unfold cmpN cmpZ; split <;> split <;> (try split) <;> (try split) <;> omega
theorem cmpZ_pos {z z' : Int} (h : false = decide (z < 0)) (h' : false = decide (z' < 0)) : cmpN z.natAbs z'.natAbs = cmpZ z z' := by
  have := of_decide_eq_false h.symm; have := of_decide_eq_false h'.symm
  unfold cmpN cmpZ; split <;> split <;> (try split) <;> (try split) <;> omega
theorem cmpZ_lt {z z' : Int} (h : true = decide (z < 0)) (h' : false = decide (z' < 0)) : cmpZ z z' = -1 := by
  have := of_decide_eq_true h.symm; have := of_decide_eq_false h'.symm
  unfold cmpZ; rw [if_pos (by omega)]
theorem cmpZ_gt {z z' : Int} (h : false = decide (z < 0)) (h' : true = decide (z' < 0)) : cmpZ z z' = 1 := by
  have := of_decide_eq_false h.symm; have := of_decide_eq_true h'.symm
  unfold cmpZ; rw [if_neg (by omega), if_pos (by omega)]

set_option maxHeartbeats 1000000 in
theorem compare_int (x x' : Value) (z z' : Int) (w : World) (hx : IntIs w w.heap.size x z) (hx' : IntIs w w.heap.size x' z') (hz : blen z.natAbs < 1000000) (hz' : blen z'.natAbs < 1000000) :
    Calls Tryd.prog 21 #[x, x'] w fun e w' => e = .returned (.int .i64 (cmpZ z z')) ∧ Below w.heap.size w w' := by
  obtain ⟨f, A, n, c, rfl, hx, hf, hn⟩ := hx.look
  obtain ⟨f', A', n', c', rfl, hx', hf', hn'⟩ := hx'.look
  have HF := Lib.hid hf
  have HF' := Lib.hid hf'
  have HZ := Lib.hid hz
  have HZ' := Lib.hid hz'
  obtain ⟨hv0, hv1, hbW, hsz⟩ := boxes2 w 24 24 #[.bool f, .slice A n c] #[.bool f', .slice A' n' c']
  have hX := Lib.hid (hx.step hbW)
  have hX' := Lib.hid (hx'.step hbW)
  clear hx hx' hf hf' hn hn' hz hz'
  cases f <;> cases f'
  · have E := Lib.hid (cmpZ_pos HF.out HF'.out)
    go_enter Tryd.func21, Tryd.ntmps21
    go_wp2_with fail
    generalize (w.alloc (.cells #[.bool _, .slice A n c] 24)).alloc (.cells #[.bool _, .slice A' n' c'] 24) = W at *
    have k0 := hv0.cell 0
    have k1 := hv0.cell 1
    have k2 := hv1.cell 0
    have k3 := hv1.cell 1
    simp only [List.getElem?_toArray, List.getElem?_cons_succ, List.getElem?_cons_zero] at k0 k1 k2 k3
    have HW := Lib.hid hbW
    have hlt : w.heap.size < W.heap.size := by omega
    have hlt1 : w.heap.size + 1 < W.heap.size := by omega
    clear hv0 hv1 hbW
    go_region_held3 (fun w' => w'.cell? ⟨w.heap.size, 0, none⟩ = some (.bool false) ∧ w'.cell? ⟨w.heap.size, 1, none⟩ = some (.slice A n c) ∧ w'.cell? ⟨w.heap.size + 1, 0, none⟩ = some (.bool false) ∧ w'.cell? ⟨w.heap.size + 1, 1, none⟩ = some (.slice A' n' c')) (first | exact ⟨by assumption, by assumption, by assumption, by assumption⟩ | go_keep)
      (first
        | (go_at_call_of 47 (Value.agg #[Value.bool false, Value.slice A n c]); refine (abs_int _ z _ (by exact hX.out) HZ.out).mono ?_; rintro e w1 ⟨⟨x1, rfl, hn1⟩, hq1⟩; have hc1 := undrew hq1; have k01 := kept_cell hc1 k0 hlt; have k11 := kept_cell hc1 k1 hlt; have k21 := kept_cell hc1 k2 hlt1; have k31 := kept_cell hc1 k3 hlt1)
        | (go_at_call_of 47 (Value.agg #[Value.bool false, Value.slice A' n' c']); refine (abs_int _ z' _ (by exact hX'.out.step hc1) HZ'.out).mono ?_; rintro e w2 ⟨⟨x2, rfl, hn2⟩, hq2⟩; have hc2 := hc1.trans (hq2.mono hc1.size); have k02 := kept_cell hc2 k0 hlt; have k12 := kept_cell hc2 k1 hlt; have k22 := kept_cell hc2 k2 hlt1; have k32 := kept_cell hc2 k3 hlt1; have hn1b := hn1.next hq2)
        | (go_at_call 46; refine (order_nat x1 x2 _ _ _ (by exact hn1b) (by exact hn2) HZ.out HZ'.out).mono ?_; rintro e w5 ⟨rfl, hq5⟩; have hc5 := hc2.trans (hq5.mono hc2.size); have k05 := kept_cell hc5 k0 hlt; have k15 := kept_cell hc5 k1 hlt; have k25 := kept_cell hc5 k2 hlt1; have k35 := kept_cell hc5 k3 hlt1))
    have HX := Lib.hid (HW.out.trans (hc5.mono (Nat.le_of_lt hlt)))
    clear hn1 hn2
    go_wp2
    go_ret
    exact ⟨ret_i E.out, HX.out⟩
  · have E := Lib.hid (cmpZ_gt HF.out HF'.out)
    have HW := Lib.hid hbW
    clear hv0 hv1 hbW hsz
    go_enter Tryd.func21, Tryd.ntmps21
    go_wp2
    go_ret
    exact ⟨ret_i E.out.symm, HW.out⟩
  · have E := Lib.hid (cmpZ_lt HF.out HF'.out)
    have HW := Lib.hid hbW
    clear hv0 hv1 hbW hsz
    go_enter Tryd.func21, Tryd.ntmps21
    go_wp2
    go_ret
    exact ⟨ret_i E.out.symm, HW.out⟩
  · have E := Lib.hid (cmpZ_neg HF.out HF'.out)
    go_enter Tryd.func21, Tryd.ntmps21
    go_wp2_with fail
    generalize (w.alloc (.cells #[.bool _, .slice A n c] 24)).alloc (.cells #[.bool _, .slice A' n' c'] 24) = W at *
    have k0 := hv0.cell 0
    have k1 := hv0.cell 1
    have k2 := hv1.cell 0
    have k3 := hv1.cell 1
    simp only [List.getElem?_toArray, List.getElem?_cons_succ, List.getElem?_cons_zero] at k0 k1 k2 k3
    have HW := Lib.hid hbW
    have hlt : w.heap.size < W.heap.size := by omega
    have hlt1 : w.heap.size + 1 < W.heap.size := by omega
    clear hv0 hv1 hbW
    go_region_held3 (fun w' => w'.cell? ⟨w.heap.size, 0, none⟩ = some (.bool true) ∧ w'.cell? ⟨w.heap.size, 1, none⟩ = some (.slice A n c) ∧ w'.cell? ⟨w.heap.size + 1, 0, none⟩ = some (.bool true) ∧ w'.cell? ⟨w.heap.size + 1, 1, none⟩ = some (.slice A' n' c')) (first | exact ⟨by assumption, by assumption, by assumption, by assumption⟩ | go_keep)
      (first
        | (go_at_call_of 47 (Value.agg #[Value.bool true, Value.slice A' n' c']); refine (abs_int _ z' _ (by exact hX'.out) HZ'.out).mono ?_; rintro e w1 ⟨⟨x1, rfl, hn1⟩, hq1⟩; have hc1 := undrew hq1; have k01 := kept_cell hc1 k0 hlt; have k11 := kept_cell hc1 k1 hlt; have k21 := kept_cell hc1 k2 hlt1; have k31 := kept_cell hc1 k3 hlt1)
        | (go_at_call_of 47 (Value.agg #[Value.bool true, Value.slice A n c]); refine (abs_int _ z _ (by exact hX.out.step hc1) HZ.out).mono ?_; rintro e w2 ⟨⟨x2, rfl, hn2⟩, hq2⟩; have hc2 := hc1.trans (hq2.mono hc1.size); have k02 := kept_cell hc2 k0 hlt; have k12 := kept_cell hc2 k1 hlt; have k22 := kept_cell hc2 k2 hlt1; have k32 := kept_cell hc2 k3 hlt1; have hn1b := hn1.next hq2)
        | (go_at_call 46; refine (order_nat x1 x2 _ _ _ (by exact hn1b) (by exact hn2) HZ'.out HZ.out).mono ?_; rintro e w5 ⟨rfl, hq5⟩; have hc5 := hc2.trans (hq5.mono hc2.size); have k05 := kept_cell hc5 k0 hlt; have k15 := kept_cell hc5 k1 hlt; have k25 := kept_cell hc5 k2 hlt1; have k35 := kept_cell hc5 k3 hlt1))
    have HX := Lib.hid (HW.out.trans (hc5.mono (Nat.le_of_lt hlt)))
    clear hn1 hn2
    go_wp2
    go_ret
    exact ⟨ret_i E.out, HX.out⟩

/-- Two results: an Int and an error. -/
def RetIntE (w : World) (z er : Int) (e : Ending) (w' : World) : Prop := (∃ x, e = .returned (.tuple #[x, .int .i64 er]) ∧ IntIs w' w'.heap.size x z) ∧ Below w.heap.size w w'
theorem intIs_zero (w : World) (B : Nat) : IntIs w B (.agg #[.bool false, .slice none 0 0]) 0 :=
  ⟨none, 0, by simp [blen_zero], by simp [blen_zero], Nat.zero_le _, fun h => by simp [blen_zero] at h⟩
theorem retIntE_store {w w2 : World} {b : Nat} {z er : Int} {ng f : Bool} {A D : Option Addr} {n c m e : Nat} (h : IntIs w2 w2.heap.size (.agg #[.bool ng, .slice A n c]) z) (hv : Var w2 b 24 #[.bool f, .slice D m e])
    (hb : Below w.heap.size w w2) (hle : w.heap.size ≤ b) :
    RetIntE w z er (.returned (.tuple #[.agg #[.bool ng, .slice A n c], .int .i64 er])) ((w2.setCell ⟨b, 0, none⟩ (.bool ng)).setCell ⟨b, 1, none⟩ (.slice A n c)) := by
  obtain ⟨⟨x, hx, hi⟩, hbl⟩ := retInt_store h hv hb hle
  injection hx with hx
  subst hx
  exact ⟨⟨_, rfl, hi⟩, hbl⟩

set_option maxHeartbeats 1000000 in
theorem limited_int (x : Value) (z : Int) (w : World) (hx : IntIs w w.heap.size x z) :
    Calls Tryd.prog 30 #[x] w (RetIntE w (if blen z.natAbs ≤ 64 then z else 0) (if blen z.natAbs ≤ 64 then 0 else 7)) := by
  obtain ⟨f, A, n, c, rfl, hx, hf, hn⟩ := hx.look
  obtain ⟨hv0, hv1, hbW, hsz⟩ := boxes2 w 24 24 #[.bool f, .slice A n c] #[.bool false, .slice none 0 0]
  have hX := hx.step hbW
  have s0 := Var.cell hv1 0
  have s1 := Var.cell hv1 1
  simp only [List.getElem?_toArray, List.getElem?_cons_succ, List.getElem?_cons_zero] at s0 s1
  by_cases h : n ≤ 64
  · rw [if_pos (by omega), if_pos (by omega)]
    have hbX := (boxes2 w 24 24 #[.bool f, .slice A n c] #[.bool f, .slice A n c]).2.2.1
    have HX := Lib.hid (show RetIntE w z 0 _ _ from ⟨⟨_, rfl, hx.step hbX⟩, hbX⟩)
    clear hbX
    have H := h
    clear hx hf hn hX hv0 hv1 hbW hsz
    go_enter Tryd.func30, Tryd.ntmps30
    go_wp2
    exact bodyPost_ret (v := .tuple #[.agg #[.bool f, .slice A n c], .int .i64 0]) (by simp [results, Tryd.results30, go_sem]) rfl HX.out
  · rw [if_neg (by omega), if_neg (by omega)]
    have HX := Lib.hid (show RetIntE w 0 7 _ _ from ⟨⟨_, rfl, intIs_zero _ _⟩, hbW⟩)
    have H : 64 < n := by omega
    clear hx hf hn hX hv0 hv1 hbW hsz h
    go_enter Tryd.func30, Tryd.ntmps30
    go_wp2
    exact bodyPost_ret (v := .tuple #[.agg #[.bool false, .slice none 0 0], .int .i64 7]) (by simp [results, Tryd.results30, go_sem, s0, s1]) rfl HX.out
end Go.Proofs.YtnkklmbmodkogaaDoor

/-! R12 -/
namespace Go.Proofs.YtnkklmbmodkogaaDoor
open Go.RowKit

def mq (n : Int) (k : Nat) : Int := n.tdiv (256 ^ k)
theorem mq_zero (n : Int) : mq n 0 = n := by simp [mq]
theorem mq_abs (n : Int) (k : Nat) : (mq n k).natAbs = n.natAbs / 256 ^ k := by
  unfold mq
  rw [Int.natAbs_tdiv, Int.natAbs_pow]
  rfl
theorem mq_succ (n : Int) (k : Nat) : (mq n k).tdiv 256 = mq n (k + 1) := by
  unfold mq
  have e : ∀ j : Nat, ((256 : Int) ^ j) = ((256 ^ j : Nat) : Int) := fun j => by rw [Int.natCast_pow]; rfl
  have key : ∀ m : Nat, ((m : Int).tdiv (256 ^ k)).tdiv 256 = (m : Int).tdiv (256 ^ (k + 1)) := fun m => by
    rw [e, e, ← Int.ofNat_tdiv, ← Int.ofNat_tdiv, show (256 : Int) = ((256 : Nat) : Int) from rfl, ← Int.ofNat_tdiv, div_pow_succ]
  rcases Int.lt_or_le n 0 with h | h
  · obtain ⟨m, hm⟩ := Int.eq_ofNat_of_zero_le (show 0 ≤ -n by omega)
    obtain rfl : n = -(m : Int) := by omega
    rw [Int.neg_tdiv, Int.neg_tdiv, Int.neg_tdiv, key]
  · obtain ⟨m, rfl⟩ := Int.eq_ofNat_of_zero_le h
    exact key m
theorem mq_rem (n : Int) (k : Nat) : (((mq n k).tmod 256).natAbs : Int) = byt n.natAbs k := by
  unfold byt
  rw [Int.natAbs_tmod, mq_abs]
  rfl
theorem tmod_sign (m : Int) : (0 ≤ m → 0 ≤ m.tmod 256) ∧ (m ≤ 0 → m.tmod 256 ≤ 0) := by
  constructor
  · intro h; exact Int.tmod_nonneg 256 h
  · intro h
    have := Int.tmod_nonneg 256 (show 0 ≤ -m by omega)
    rw [Int.neg_tmod] at this; omega

set_option maxHeartbeats 1000000 in
theorem of_int (n : Int) (w : World) (h0 : -9223372036854775808 ≤ n) (h1 : n ≤ 9223372036854775807) :
    Calls Tryd.prog 23 #[.int .i64 n] w (RetInt w n) := by
  have hW := below_alloc w (.cells #[.bool false, .slice none 0 0] 24)
  have hv := Var.new w 24 #[.bool false, .slice none 0 0]
  go_enter Tryd.func23, Tryd.ntmps23
  go_wp2
  generalize w.alloc (.cells #[.bool false, .slice none 0 0] 24) = W at *
  have hlt := hv.lt
  have HW := Lib.hid hW
  have HV := Lib.hid hv
  clear hW hv
  go_loopw [3, 4, 5] (fun x m d wr => ∃ k : Nat, k ≤ 8 ∧ m = .int .i64 (mq n k) ∧ Own wr (w.heap.size + 1) x (le n.natAbs k) ∧ Below (w.heap.size + 1) W wr) (fun _ m _ _ => (intOf m).natAbs)
  case atStart => exact ⟨0, by omega, by rw [mq_zero], by simpa [le] using Own.nil_, Below.refl _ _⟩
  case round =>
    obtain ⟨k, hk, rfl, hown, hbl⟩ := hrel
    have hsz := hbl.size
    have ha := mq_abs n k
    have hdv : n.natAbs / 256 ^ k ≤ n.natAbs := Nat.div_le_self _ _
    have b0 : -9223372036854775808 ≤ mq n k := by omega
    have b1 : mq n k ≤ 9223372036854775807 := by
      rcases Int.lt_or_le n 0 with hn | hn
      · have : mq n k ≤ 0 := by unfold mq; have := Int.tdiv_nonneg (a := -n) (b := 256 ^ k) (by omega) (Int.pow_nonneg (by omega)); rw [Int.neg_tdiv] at this; omega
        omega
      · omega
    by_cases hz : mq n k = 0
    · have hv : n.natAbs < 256 ^ k := by
        rw [hz] at ha
        rcases Nat.lt_or_ge n.natAbs (256 ^ k) with h | h
        · exact h
        · have := Nat.div_pos h (Nat.pow_pos (by omega)); simp at ha; omega
      have hB : (mq n k != 0) = false := by simp [hz]
      obtain ⟨A1, c1, hx, q1, q2, q3⟩ := hown.form
      simp only [le_len] at hx q1
      subst hx
      have HQ := Lib.hid hv
      have e0 := Lib.hid (sgn_self n)
      have hvr := HV.out.below hbl (by omega)
      have HB := Lib.hid hbl
      clear hz ha hown hbl hv
      go_wp2_with (go_at_call 48; refine (make_any (decide (n < 0)) A1 k c1 n.natAbs wr.heap.size _ (by exact q3) (by exact Nat.le_refl _) HQ.out (by omega) q1 q2).mono ?_; rintro e w2 ⟨⟨x2, rfl, hi2⟩, hq2⟩; rw [e0.out] at hi2; have hv2 := hvr.below hq2 (by omega); have s0 := hv2.cell 0; have s1 := hv2.cell 1; have t0 := hv2.free 0; have t1 := hv2.free 1; simp only [List.getElem?_toArray, List.getElem?_cons_succ, List.getElem?_cons_zero] at s0 s1; obtain ⟨f2, A2, n2, c2, rfl, hi3, hf2, hn2⟩ := hi2.look; clear hf2 hn2)
      have HX := Lib.hid (retInt_store hi3 hv2 ((HW.out.trans (HB.out.mono (by omega))).trans (hq2.mono (by omega))) (Nat.le_refl _))
      clear hi2 hi3 hv2 hvr
      exact bodyPost_ret (by simp [results, Tryd.results23, go_sem, s0, s1]) rfl HX.out
    · have hr := mq_rem n k
      have hs := tmod_sign (mq n k)
      have hbb := byt_b n.natAbs k
      have hB : (mq n k != 0) = true := by simp [hz]
      have hle := Lib.hid (le_succ n.natAbs k)
      have HR := Lib.hid hr
      have HA := Lib.hid ha
      have HO := Lib.hid hown
      have HB := Lib.hid hbl
      have HS := Lib.hid hs
      have HD := Lib.hid hdv
      have hk8 : k + 1 ≤ 8 := by
        rcases Nat.lt_or_ge k 8 with h | h
        · omega
        · have h2 : 256 ^ 8 ≤ 256 ^ k := Nat.pow_le_pow_right (by omega) h
          have : n.natAbs / 256 ^ k = 0 := Nat.div_eq_of_lt (by omega)
          omega
      have hr0 : -255 ≤ (mq n k).tmod 256 := by omega
      have hr1 : (mq n k).tmod 256 ≤ 255 := by omega
      have HNZ := Lib.hid (show 0 < (mq n k).natAbs by omega)
      clear hz hr ha hown hbl hs hdv
      by_cases hneg : (mq n k).tmod 256 < 0
      · have hy : -(mq n k).tmod 256 = byt n.natAbs k := by have := HR.out; omega
        have HY := Lib.hid hy
        have y0 : 0 ≤ -(mq n k).tmod 256 := by omega
        have y1 : -(mq n k).tmod 256 < 256 := by omega
        clear hy
        go_wp2_with (at_builtin; refine app1 rfl _ _ _ rfl Tryd.underlying62 rfl (HO.out.alloc _) (HB.out.alloc (by omega) _) ?c1 wr.heap.size (-(mq n k).tmod 256) rfl ?c2 ?c3 ?_)
        case c1 => simp; omega
        case c2 => rw [World.cell?_alloc_at _ _ _ _ rfl]; rfl
        case c3 => simp; omega
        intro x' w1 hown1 hbl1
        rw [HY.out, ← hle.out] at hown1
        go_wp2
        go_roundw
        case rel => exact ⟨k + 1, by omega, vi (mq_succ n k), hown1, hbl1⟩
        case measure =>
          simp only [intOf]
          have e1 := mq_succ n k
          have e2 := mq_abs n (k + 1)
          have e3 := HA.out
          have e4 := HNZ.out
          rw [← e1] at e2
          rw [div_pow_succ, ← e3] at e2
          omega
      · have hy : (mq n k).tmod 256 = byt n.natAbs k := by have := HR.out; omega
        have HY := Lib.hid hy
        have y0 : 0 ≤ (mq n k).tmod 256 := by omega
        have y1 : (mq n k).tmod 256 < 256 := by omega
        clear hy hneg
        go_wp2_with (at_builtin; refine app1 rfl _ _ _ rfl Tryd.underlying62 rfl (HO.out.alloc _) (HB.out.alloc (by omega) _) ?c1 wr.heap.size ((mq n k).tmod 256) rfl ?c2 ?c3 ?_)
        case c1 => simp; omega
        case c2 => rw [World.cell?_alloc_at _ _ _ _ rfl]; rfl
        case c3 => simp; omega
        intro x' w1 hown1 hbl1
        rw [HY.out, ← hle.out] at hown1
        go_wp2
        go_roundw
        case rel => exact ⟨k + 1, by omega, vi (mq_succ n k), hown1, hbl1⟩
        case measure =>
          simp only [intOf]
          have e1 := mq_succ n k
          have e2 := mq_abs n (k + 1)
          have e3 := HA.out
          have e4 := HNZ.out
          rw [← e1] at e2
          rw [div_pow_succ, ← e3] at e2
          omega
end Go.Proofs.YtnkklmbmodkogaaDoor

/-! V1 -/
namespace Go.Proofs.YtnkklmbmodkogaaDoor
open Go.RowKit

def validB (f : Bool) (n v : Nat) : Bool := if n = 0 then !f else (decide (n ≤ 64) && (byt v (n - 1) != 0))
theorem validB_nil (f : Bool) (v : Nat) : validB f 0 v = !f := by simp [validB]
theorem validB_big (f : Bool) (n v : Nat) (h : 64 < n) : validB f n v = false := by unfold validB; rw [if_neg (by omega)]; simp; omega
theorem validB_mid (f : Bool) (n v : Nat) (h0 : 0 < n) (h : n ≤ 64) : validB f n v = (byt v (n - 1) != 0) := by unfold validB; rw [if_neg (by omega)]; simp [h]

set_option maxHeartbeats 400000 in
theorem rvalid_raw (f : Bool) (A : Option Addr) (n c v B : Nat) (w : World) (hr : Bys w B A (be v n)) (hB : B ≤ w.heap.size) :
    Calls Tryd.prog 13 #[.agg #[.bool f, .slice A n c]] w fun e w' => e = .returned (.bool (validB f n v)) ∧ Below w.heap.size w w' := by
  have HW := Lib.hid (below_alloc w (.cells #[.bool f, .slice A n c] 24))
  by_cases h0 : n = 0
  · subst h0
    have E := Lib.hid (validB_nil f v)
    clear hr
    go_enter Tryd.func13, Tryd.ntmps13
    go_wp2
    go_ret
    exact ⟨ret_b E.out.symm, HW.out⟩
  · by_cases h1 : n ≤ 64
    · have E := Lib.hid (validB_mid f n v (by omega) h1)
      obtain ⟨b, o, rfl, hb, hcell⟩ := hr (by simp; omega)
      have hc := hcell 0 (by simp; omega)
      rw [be_get v n 0 (by omega)] at hc
      simp only [Nat.sub_zero, Nat.add_zero] at hc
      have hc1 : (w.alloc (.cells #[.bool f, .slice (some ⟨b, o, none⟩) n c] 24)).cell? ⟨b, o, none⟩ = some (.int .u8 (byt v (n - 1))) := kept_cell HW.out hc (by omega)
      have hne : ((n : Int) == 0) = false := by simp; omega
      have hp : 0 < n := by omega
      clear hcell hc hr h0
      go_enter Tryd.func13, Tryd.ntmps13
      go_wp2
      go_ret
      exact ⟨ret_b E.out.symm, HW.out⟩
    · have E := Lib.hid (validB_big f n v (by omega))
      have hp : 64 < n := by omega
      clear hr h0 h1
      go_enter Tryd.func13, Tryd.ntmps13
      go_wp2
      go_ret
      exact ⟨ret_b E.out.symm, HW.out⟩

set_option maxHeartbeats 400000 in
theorem nvalid_raw (f : Bool) (A : Option Addr) (n c v B : Nat) (w : World) (hr : Bys w B A (be v n)) (hB : B ≤ w.heap.size) :
    Calls Tryd.prog 16 #[.agg #[.bool f, .slice A n c]] w fun e w' => e = .returned (.bool (validB f n v)) ∧ Below w.heap.size w w' := by
  have HW := Lib.hid (below_alloc w (.cells #[.bool f, .slice A n c] 24))
  by_cases h0 : n = 0
  · subst h0
    have E := Lib.hid (validB_nil f v)
    clear hr
    go_enter Tryd.func16, Tryd.ntmps16
    go_wp2
    go_ret
    exact ⟨ret_b E.out.symm, HW.out⟩
  · by_cases h1 : n ≤ 64
    · have E := Lib.hid (validB_mid f n v (by omega) h1)
      obtain ⟨b, o, rfl, hb, hcell⟩ := hr (by simp; omega)
      have hc := hcell 0 (by simp; omega)
      rw [be_get v n 0 (by omega)] at hc
      simp only [Nat.sub_zero, Nat.add_zero] at hc
      have hc1 : (w.alloc (.cells #[.bool f, .slice (some ⟨b, o, none⟩) n c] 24)).cell? ⟨b, o, none⟩ = some (.int .u8 (byt v (n - 1))) := kept_cell HW.out hc (by omega)
      have hne : ((n : Int) == 0) = false := by simp; omega
      have hp : 0 < n := by omega
      clear hcell hc hr h0
      go_enter Tryd.func16, Tryd.ntmps16
      go_wp2
      go_ret
      exact ⟨ret_b E.out.symm, HW.out⟩
    · have E := Lib.hid (validB_big f n v (by omega))
      have hp : 64 < n := by omega
      have hne : ((n : Int) == 0) = false := by simp; omega
      clear hr h0 h1
      go_enter Tryd.func16, Tryd.ntmps16
      go_wp2
      go_ret
      exact ⟨ret_b E.out.symm, HW.out⟩

/-- A valid Int. -/
theorem valid_of {z : Int} (h : blen z.natAbs ≤ 64) : validB (decide (z < 0)) (blen z.natAbs) z.natAbs = true := by
  rcases Nat.eq_zero_or_pos (blen z.natAbs) with h0 | h0
  · rw [h0, validB_nil]
    have := blen_eq_zero.1 h0
    simp; omega
  · rw [validB_mid _ _ _ h0 h]
    simpa using byt_top z.natAbs h0
theorem valid_is {w : World} {B : Nat} {f : Bool} {A : Option Addr} {n c v : Nat} (hr : Bys w B A (be v n)) (hv : v < 256 ^ n) (hc : n ≤ c) (hm : c ≤ maxLen) (h : validB f n v = true) :
    ∃ z, IntIs w B (.agg #[.bool f, .slice A n c]) z ∧ blen z.natAbs ≤ 64 ∧ z = sgn f v := by
  have hn : n = blen v := by
    refine be_canon hv fun h0 => ?_
    rw [be_get v n 0 h0]
    rcases Nat.lt_or_ge 64 n with h1 | h1
    · rw [validB_big f n v h1] at h; cases h
    · rw [validB_mid f n v h0 h1] at h; simpa using h
  have h64 : n ≤ 64 := by
    rcases Nat.lt_or_ge 64 n with h1 | h1
    · rw [validB_big f n v h1] at h; cases h
    · exact h1
  refine ⟨sgn f v, ⟨A, c, ?_, ?_, hm, ?_⟩, ?_, rfl⟩
  · rw [sgn_abs, sgn_neg, ← hn]
    have : f = (f && decide (0 < n)) := by
      rcases Nat.eq_zero_or_pos n with h0 | h0
      · subst h0; rw [validB_nil] at h; simp at h; subst h; rfl
      · simp [h0]
    rw [← this]
  · rw [sgn_abs, ← hn]; exact hc
  · rw [sgn_abs, ← hn]; exact hr
  · rw [sgn_abs, ← hn]; exact h64
end Go.Proofs.YtnkklmbmodkogaaDoor

/-! Num2 -/
namespace Go.Proofs.YtnkklmbmodkogaaDoor
open Go.RowKit

/-- Byte p of v stands in limb p / 8. -/
theorem byte_in_limb (v p : Nat) : v / 18446744073709551616 ^ (p / 8) % 18446744073709551616 / 256 ^ (p % 8) % 256 = v / 256 ^ p % 256 := by
  have e1 : v / 256 ^ p = v / 18446744073709551616 ^ (p / 8) / 256 ^ (p % 8) := by
    rw [W8, Nat.div_div_eq_div_mul, ← Nat.pow_add]; congr 2; omega
  rw [e1]
  generalize v / 18446744073709551616 ^ (p / 8) = X
  have h8 : p % 8 < 8 := Nat.mod_lt _ (by omega)
  generalize p % 8 = r at *
  have e2 : (18446744073709551616 : Nat) = 256 ^ r * (256 * 256 ^ (7 - r)) := by
    rw [← Nat.pow_succ', ← Nat.pow_add, show r + (7 - r).succ = 8 from by omega]
  rw [e2, Nat.mod_mul_right_div_self, Nat.mod_mul_right_mod]
/-- The upper k of n bytes of v. -/
def hi (v n k : Nat) : Nat := v / 256 ^ (n - k) * 256 ^ (n - k)
theorem hi_zero (v n : Nat) (h : v < 256 ^ n) : hi v n 0 = 0 := by unfold hi; rw [Nat.sub_zero, Nat.div_eq_of_lt h]; simp
theorem hi_all (v n : Nat) : hi v n n = v := by unfold hi; simp
theorem hi_succ (v n k : Nat) (h : k < n) : hi v n (k + 1) = hi v n k + v / 256 ^ (n - 1 - k) % 256 * 256 ^ (n - 1 - k) := by
  unfold hi
  have e : n - k = (n - 1 - k) + 1 := by omega
  rw [e, show n - (k + 1) = n - 1 - k from by omega, div_pow_succ, Nat.pow_succ]
  generalize 256 ^ (n - 1 - k) = P
  have := Nat.div_add_mod (v / P) 256
  calc v / P * P = (256 * (v / P / 256) + v / P % 256) * P := by rw [this]
    _ = v / P / 256 * (P * 256) + v / P % 256 * P := by rw [Nat.add_mul]; ac_rfl
theorem hi_dvd (v n k : Nat) (h : k < n) : hi v n k / 256 ^ (n - 1 - k) % 256 = 0 ∧ hi v n k % 256 ^ (n - k) = 0 := by
  unfold hi
  refine ⟨?_, Nat.mul_mod_left _ _⟩
  have e : n - k = (n - 1 - k) + 1 := by omega
  have hp : 0 < 256 ^ (n - 1 - k) := Nat.pow_pos (by omega)
  rw [e, Nat.pow_succ, show v / (256 ^ (n - 1 - k) * 256) * (256 ^ (n - 1 - k) * 256) = 256 ^ (n - 1 - k) * (v / (256 ^ (n - 1 - k) * 256) * 256) from by ac_rfl, Nat.mul_div_cancel_left _ hp]
  omega
/-- A byte is added where the number ends in zero bytes: it goes into its limb. -/
theorem limb_add {X d p : Nat} (hX : X % 256 ^ (p + 1) = 0) (hd : d < 256) (j : Nat) :
    limb (X + d * 256 ^ p) j = if j = p / 8 then limb X j + (d : Int) * 256 ^ (p % 8) else limb X j := by
  obtain ⟨Y, rfl⟩ : ∃ Y, X = 256 ^ (p + 1) * Y := ⟨X / 256 ^ (p + 1), by have := Nat.div_add_mod X (256 ^ (p + 1)); omega⟩
  clear hX
  have hp8 : p = 8 * (p / 8) + p % 8 := by omega
  unfold limb
  rw [W8]
  have h8 : p % 8 < 8 := Nat.mod_lt _ (by omega)
  generalize p / 8 = q at *
  generalize p % 8 = r at *
  subst hp8
  rcases Nat.lt_trichotomy j q with h | h | h
  · rw [if_neg (by omega)]
    have hp : 0 < 256 ^ (8 * j) := Nat.pow_pos (by omega)
    obtain ⟨t, ht⟩ : ∃ t, 8 * q + r = 8 * j + 8 + t := ⟨8 * q + r - 8 * j - 8, by omega⟩
    rw [ht]
    have e1 : 256 ^ (8 * j + 8 + t + 1) * Y + d * 256 ^ (8 * j + 8 + t) = 256 ^ (8 * j) * (18446744073709551616 * (256 ^ (t + 1) * Y + d * 256 ^ t)) := by
      rw [show 8 * j + 8 + t + 1 = 8 * j + (8 + (t + 1)) from by omega, show 8 * j + 8 + t = 8 * j + (8 + t) from by omega, Nat.pow_add, Nat.pow_add, Nat.pow_add 256 (8 * j) (8 + t), Nat.pow_add 256 8 t, Nat.mul_add, Nat.mul_add]
      rw [show (256 : Nat) ^ 8 = 18446744073709551616 from rfl]
      ac_rfl
    have e2 : 256 ^ (8 * j + 8 + t + 1) * Y = 256 ^ (8 * j) * (18446744073709551616 * (256 ^ (t + 1) * Y)) := by
      rw [show 8 * j + 8 + t + 1 = 8 * j + (8 + (t + 1)) from by omega, Nat.pow_add, Nat.pow_add]
      rw [show (256 : Nat) ^ 8 = 18446744073709551616 from rfl]
      ac_rfl
    rw [e1, e2, Nat.mul_div_cancel_left _ hp, Nat.mul_div_cancel_left _ hp]
    simp
  · subst h
    rw [if_pos rfl]
    have hp : 0 < 256 ^ (8 * j) := Nat.pow_pos (by omega)
    have e1 : 256 ^ (8 * j + r + 1) * Y + d * 256 ^ (8 * j + r) = 256 ^ (8 * j) * (256 ^ (r + 1) * Y + d * 256 ^ r) := by
      rw [show 8 * j + r + 1 = 8 * j + (r + 1) from by omega, Nat.pow_add, Nat.pow_add 256 (8 * j) r, Nat.mul_add]; ac_rfl
    have e2 : 256 ^ (8 * j + r + 1) * Y = 256 ^ (8 * j) * (256 ^ (r + 1) * Y) := by
      rw [show 8 * j + r + 1 = 8 * j + (r + 1) from by omega, Nat.pow_add]; ac_rfl
    rw [e1, e2, Nat.mul_div_cancel_left _ hp, Nat.mul_div_cancel_left _ hp]
    -- in one limb
    have e3 : (18446744073709551616 : Nat) = 256 ^ (r + 1) * 256 ^ (7 - r) := by rw [← Nat.pow_add, show r + 1 + (7 - r) = 8 from by omega]
    have hP : 0 < 256 ^ r := Nat.pow_pos (by omega)
    have e4 : (256 ^ (r + 1) * Y + d * 256 ^ r) % 18446744073709551616 = 256 ^ (r + 1) * Y % 18446744073709551616 + d * 256 ^ r := by
      have hlt : d * 256 ^ r < 256 ^ (r + 1) := by rw [Nat.pow_succ, Nat.mul_comm]; exact Nat.mul_lt_mul_of_pos_left hd hP
      have e5 : (256 ^ (r + 1) * Y + d * 256 ^ r) / 256 ^ (r + 1) = Y := by rw [Nat.mul_add_div (Nat.pow_pos (by omega)), Nat.div_eq_of_lt hlt, Nat.add_zero]
      rw [e3, Nat.mul_mod_mul_left, Nat.mod_mul, Nat.mul_add_mod, Nat.mod_eq_of_lt hlt, e5, Nat.add_comm]
    rw [e4, Int.natCast_add, Int.natCast_mul, Int.natCast_pow]
    rfl
  · rw [if_neg (by omega)]
    have e0 : ∀ Z : Nat, Z / 256 ^ (8 * j) = Z / 256 ^ (8 * q + r + 1) / 256 ^ (8 * j - (8 * q + r + 1)) := fun Z => by
      rw [Nat.div_div_eq_div_mul, ← Nat.pow_add]; congr 2; omega
    have hp : 0 < 256 ^ (8 * q + r + 1) := Nat.pow_pos (by omega)
    have hlt : d * 256 ^ (8 * q + r) < 256 ^ (8 * q + r + 1) := by rw [Nat.pow_succ, Nat.mul_comm]; exact Nat.mul_lt_mul_of_pos_left hd (Nat.pow_pos (by omega))
    rw [e0, e0, Nat.mul_add_div hp, Nat.div_eq_of_lt hlt, Nat.mul_div_cancel_left _ hp, Nat.add_zero]
/-- That limb is a multiple of 256 times the byte's place. -/
theorem limb_low {X p : Nat} (hX : X % 256 ^ (p + 1) = 0) : limb X (p / 8) % 256 ^ (p % 8 + 1) = 0 := by
  obtain ⟨Y, rfl⟩ : ∃ Y, X = 256 ^ (p + 1) * Y := ⟨X / 256 ^ (p + 1), by have := Nat.div_add_mod X (256 ^ (p + 1)); omega⟩
  clear hX
  have hp8 : p = 8 * (p / 8) + p % 8 := by omega
  unfold limb
  rw [W8]
  have h8 : p % 8 < 8 := Nat.mod_lt _ (by omega)
  generalize p / 8 = q at *
  generalize p % 8 = r at *
  subst hp8
  have hp : 0 < 256 ^ (8 * q) := Nat.pow_pos (by omega)
  have e2 : 256 ^ (8 * q + r + 1) * Y = 256 ^ (8 * q) * (256 ^ (r + 1) * Y) := by
    rw [show 8 * q + r + 1 = 8 * q + (r + 1) from by omega, Nat.pow_add]; ac_rfl
  rw [e2, Nat.mul_div_cancel_left _ hp]
  have e3 : (18446744073709551616 : Nat) = 256 ^ (r + 1) * 256 ^ (7 - r) := by rw [← Nat.pow_add, show r + 1 + (7 - r) = 8 from by omega]
  have : 256 ^ (r + 1) * Y % 18446744073709551616 % 256 ^ (r + 1) = 0 := by rw [e3, Nat.mul_mod_mul_left, Nat.mul_mod_right]
  have e : (256 : Int) ^ (r + 1) = ((256 ^ (r + 1) : Nat) : Int) := by rw [Int.natCast_pow]; rfl
  rw [e, ← Int.natCast_emod, this]
  rfl
/-- The operation of magnitudeOf's round. -/
theorem or_step {X d p : Nat} (hX : X % 256 ^ (p + 1) = 0) (hd : d < 256) :
    bits BinOp.or IntKind.u64 (limb X (p / 8)) (IntKind.u64.wrap ((d : Int) * 2 ^ (p % 8 * 8))) = limb (X + d * 256 ^ p) (p / 8) := by
  rw [limb_add hX hd, if_pos rfl]
  have h8 : p % 8 < 8 := Nat.mod_lt _ (by omega)
  have hl := limb_low hX
  obtain ⟨l0, l1⟩ := limb_w X (p / 8)
  generalize limb X (p / 8) = L at *
  generalize p % 8 = r at *
  have e1 : (2 : Int) ^ (r * 8) = 256 ^ r := by rw [Nat.mul_comm, Int.pow_mul]; rfl
  rw [e1]
  obtain ⟨L, rfl⟩ := Int.eq_ofNat_of_zero_le l0
  have e2 : (256 : Int) ^ r = ((256 ^ r : Nat) : Int) := by rw [Int.natCast_pow]; rfl
  have e3 : (256 : Int) ^ (r + 1) = ((256 ^ (r + 1) : Nat) : Int) := by rw [Int.natCast_pow]; rfl
  rw [e3] at hl
  rw [e2]
  have hlN : L % 256 ^ (r + 1) = 0 := by exact_mod_cast hl
  have hlt : d * 256 ^ r < 256 ^ (r + 1) := by rw [Nat.pow_succ, Nat.mul_comm]; exact Nat.mul_lt_mul_of_pos_left hd (Nat.pow_pos (by omega))
  have hle : (256 : Nat) ^ (r + 1) ≤ 256 ^ 8 := Nat.pow_le_pow_right (by omega) (by omega)
  have h9 : (256 : Nat) ^ 8 = 18446744073709551616 := rfl
  have hw : IntKind.u64.wrap (((d * 256 ^ r : Nat) : Int)) = ((d * 256 ^ r : Nat) : Int) := IntWalk.u64_in _ (by omega)
  have e4 : (d : Int) * ((256 ^ r : Nat) : Int) = ((d * 256 ^ r : Nat) : Int) := by rw [Int.natCast_mul]
  rw [e4, hw, u64_or_nat L (d * 256 ^ r) (by omega) (by omega)]
  have h5 : L ||| d * 256 ^ r = L + d * 256 ^ r := by
    obtain ⟨M, rfl⟩ : ∃ M, L = 256 ^ (r + 1) * M := ⟨L / 256 ^ (r + 1), by have := Nat.div_add_mod L (256 ^ (r + 1)); omega⟩
    have e6 : (256 : Nat) ^ (r + 1) = 2 ^ (8 * (r + 1)) := by rw [Nat.pow_mul]
    rw [e6] at hlt ⊢
    rw [Nat.two_pow_add_eq_or_of_lt hlt]
  rw [h5, Int.natCast_add]
end Go.Proofs.YtnkklmbmodkogaaDoor
