/- The statement NumberRing: the numbers. The statement NumberRing: the walk out at once. The statement NumberRing: the walk, valid Ints. The statement NumberRing: the walk, valid Ints. The statement NumberRing: every three Ints, valid or not. -/
import Derived.Test.YtnkklmbmodkogaaDoorG16
import Derived.Test.YtnkklmbmodkogaaDoorG11
import Derived.Deep.DeepCutAuto
import Derived.Deep.RegionHeld3
/-! Ri1 -/
namespace Go.Proofs.YtnkklmbmodkogaaDoor
open Go.RowKit

theorem blen_up {u v : Nat} (h : u ≤ v) : blen u ≤ blen v := blen_le (Nat.lt_of_le_of_lt h (blen_hi v))
theorem blenz_add {a b : Int} {k : Nat} (ha : blen a.natAbs ≤ k) (hb : blen b.natAbs ≤ k) : blen (a + b).natAbs ≤ k + 1 :=
  Nat.le_trans (blen_up (Int.natAbs_add_le a b)) (blen_add (by omega) (by omega))
theorem blenz_mul {a b : Int} {k : Nat} (h : blen a.natAbs + blen b.natAbs ≤ k) : blen (a * b).natAbs ≤ k := by
  rw [Int.natAbs_mul]; exact blen_mul h
theorem add_to {a b c : Int} (h : a + b = c) (ha : blen a.natAbs ≤ 64) (hb : blen b.natAbs ≤ 64) (hc : blen c.natAbs ≤ 64) (x y : Value) (w : World) (hx : IntIs w w.heap.size x a) (hy : IntIs w w.heap.size y b) :
    Calls Tryd.prog 26 #[x, y] w (RetIntE w c 0) := by
  have := add_int x y a b w hx hy ha hb
  rwa [h, (fit_yes (abs_lt hc)).1, (fit_yes (abs_lt hc)).2] at this
theorem sub_to {a b c : Int} (h : a - b = c) (ha : blen a.natAbs ≤ 64) (hb : blen b.natAbs ≤ 64) (hc : blen c.natAbs ≤ 64) (x y : Value) (w : World) (hx : IntIs w w.heap.size x a) (hy : IntIs w w.heap.size y b) :
    Calls Tryd.prog 27 #[x, y] w (RetIntE w c 0) := by
  have := sub_int x y a b w hx hy ha hb
  rwa [h, (fit_yes (abs_lt hc)).1, (fit_yes (abs_lt hc)).2] at this
theorem mul_to {a b c : Int} (h : a * b = c) (ha : blen a.natAbs ≤ 64) (hb : blen b.natAbs ≤ 64) (hc : blen c.natAbs ≤ 64) (x y : Value) (w : World) (hx : IntIs w w.heap.size x a) (hy : IntIs w w.heap.size y b) :
    Calls Tryd.prog 28 #[x, y] w (RetIntE w c 0) := by
  have := mul_fit x y a b w hx hy ha hb
  rwa [h, (fit_yes (abs_lt hc)).1, (fit_yes (abs_lt hc)).2] at this
def quoZ (a b : Int) : Int := sgn (decide (a < 0) != decide (b < 0)) (dmU (decide (a < 0) != decide (b < 0)) a.natAbs b.natAbs)
def remZ (a b : Int) : Int := sgn (decide (b < 0)) (dmR (decide (a < 0) != decide (b < 0)) a.natAbs b.natAbs)
theorem dm_to {a b : Int} (ha : blen a.natAbs ≤ 64) (hb : blen b.natAbs ≤ 64) (hb0 : b ≠ 0) (x y : Value) (w : World) (hx : IntIs w w.heap.size x a) (hy : IntIs w w.heap.size y b) :
    Calls Tryd.prog 33 #[x, y] w (Ret2 w (quoZ a b) (remZ a b) 0) := divMod_all x y a b w hx hy ha hb hb0
theorem dm_id (a b : Int) (hb0 : b ≠ 0) : quoZ a b * b + remZ a b = a := by
  have h := Nat.div_add_mod a.natAbs b.natAbs
  have h2 := Nat.mod_lt a.natAbs (show 0 < b.natAbs by omega)
  unfold quoZ remZ dmU dmR
  generalize hq : a.natAbs / b.natAbs = q at *
  generalize hr : a.natAbs % b.natAbs = r at *
  have hz : (b.natAbs : Int) * (q : Int) + (r : Int) = (a.natAbs : Int) := by exact_mod_cast h
  rcases Int.lt_or_le a 0 with ha | ha <;> rcases Int.lt_or_le b 0 with hb | hb
  · rw [show (b.natAbs : Int) = -b by omega, show (a.natAbs : Int) = -a by omega, Int.neg_mul] at hz
    simp only [ha, hb, decide_true, bne_self_eq_false, Bool.false_and, sgn]
    simp
    rw [Int.mul_comm]
    try rw [Int.mul_neg]
    omega
  · rw [show (b.natAbs : Int) = b by omega, show (a.natAbs : Int) = -a by omega] at hz
    have e1 : decide (b < 0) = false := by simp; omega
    by_cases h0 : r = 0
    · simp only [ha, e1, decide_true, h0, sgn]
      simp
      subst h0
      rw [Int.mul_comm]
      try rw [Int.mul_neg]
      omega
    · simp only [ha, e1, decide_true, sgn]
      simp [h0]
      rw [Int.neg_mul, Int.add_mul, Int.mul_comm (q : Int)]
      omega
  · rw [show (b.natAbs : Int) = -b by omega, show (a.natAbs : Int) = a by omega, Int.neg_mul] at hz
    have e1 : decide (a < 0) = false := by simp; omega
    by_cases h0 : r = 0
    · simp only [hb, e1, decide_true, h0, sgn]
      simp
      subst h0
      rw [Int.mul_comm]
      try rw [Int.mul_neg]
      omega
    · simp only [hb, e1, decide_true, sgn]
      simp [h0]
      rw [Int.neg_mul, Int.add_mul, Int.mul_comm (q : Int)]
      omega
  · rw [show (b.natAbs : Int) = b by omega, show (a.natAbs : Int) = a by omega] at hz
    have e1 : decide (a < 0) = false := by simp; omega
    have e2 : decide (b < 0) = false := by simp; omega
    simp only [e1, e2, sgn]
    simp
    rw [Int.mul_comm]
    try rw [Int.mul_neg]
    omega
theorem dm_small (a b : Int) (hb0 : b ≠ 0) : (quoZ a b).natAbs ≤ a.natAbs ∧ (remZ a b).natAbs ≤ b.natAbs := by
  have h2 := Nat.mod_lt a.natAbs (show 0 < b.natAbs by omega)
  unfold quoZ remZ
  rw [sgn_abs, sgn_abs]
  unfold dmU dmR
  constructor
  · split
    · rename_i h
      simp only [Bool.and_eq_true, decide_eq_true_eq] at h
      have hv : 2 ≤ b.natAbs := by
        rcases Nat.lt_or_ge b.natAbs 2 with h3 | h3
        · obtain h4 : b.natAbs = 1 := by omega
          rw [h4, Nat.mod_one] at h; exact absurd rfl h.2
        · exact h3
      have hu : 0 < a.natAbs := by
        rcases Nat.eq_zero_or_pos a.natAbs with h3 | h3
        · rw [h3, Nat.zero_mod] at h; exact absurd rfl h.2
        · exact h3
      have := Nat.div_lt_self hu hv
      omega
    · exact Nat.div_le_self _ _
  · split <;> omega
theorem dm_sign (a b : Int) (hb0 : b ≠ 0) : remZ a b = 0 ∨ (remZ a b ≠ 0 ∧ cmpZ (remZ a b) 0 = cmpZ b 0) := by
  have h2 := Nat.mod_lt a.natAbs (show 0 < b.natAbs by omega)
  unfold remZ
  generalize hR : dmR (decide (a < 0) != decide (b < 0)) a.natAbs b.natAbs = R
  rcases Nat.eq_zero_or_pos R with h | h
  · left; subst h; unfold sgn; split <;> rfl
  · right
    rcases Int.lt_or_le b 0 with hb | hb
    · have e : decide (b < 0) = true := by simp [hb]
      rw [e]; unfold sgn; unfold cmpZ; simp
      constructor
      · omega
      · repeat' split
        all_goals omega
    · have e : decide (b < 0) = false := by simp; omega
      rw [e]; unfold sgn; unfold cmpZ; simp
      constructor
      · omega
      · repeat' split
        all_goals omega
theorem dm_whole {a g : Int} (_hg : 0 < g) (h : g.natAbs ∣ a.natAbs) : remZ a g = 0 := by
  unfold remZ dmR
  have e := Nat.mod_eq_zero_of_dvd h
  rw [e]
  simp [sgn]
end Go.Proofs.YtnkklmbmodkogaaDoor

/-! Ri2 -/
namespace Go.Proofs.YtnkklmbmodkogaaDoor
open Go.RowKit

theorem three_raw {w : World} {f f' f3 : Bool} {A A' A3 : Option Addr} {n c v n' c' v' n3 c3 v3 : Nat} (h : RawIs w w.heap.size (.agg #[.bool f, .slice A n c]) f n v) (h' : RawIs w w.heap.size (.agg #[.bool f', .slice A' n' c']) f' n' v') (h3 : RawIs w w.heap.size (.agg #[.bool f3, .slice A3 n3 c3]) f3 n3 v3) :
    RawVar (((w.alloc (.cells #[.bool f, .slice A n c] 24)).alloc (.cells #[.bool f', .slice A' n' c'] 24)).alloc (.cells #[.bool f3, .slice A3 n3 c3] 24)) w.heap.size f A n c v ∧ RawVar (((w.alloc (.cells #[.bool f, .slice A n c] 24)).alloc (.cells #[.bool f', .slice A' n' c'] 24)).alloc (.cells #[.bool f3, .slice A3 n3 c3] 24)) (w.heap.size + 1) f' A' n' c' v' ∧ RawVar (((w.alloc (.cells #[.bool f, .slice A n c] 24)).alloc (.cells #[.bool f', .slice A' n' c'] 24)).alloc (.cells #[.bool f3, .slice A3 n3 c3] 24)) (w.heap.size + 2) f3 A3 n3 c3 v3 ∧
    Below w.heap.size w (((w.alloc (.cells #[.bool f, .slice A n c] 24)).alloc (.cells #[.bool f', .slice A' n' c'] 24)).alloc (.cells #[.bool f3, .slice A3 n3 c3] 24)) := by
  obtain ⟨v0, v1, v2, hb, -⟩ := boxes3 w 24 24 24 #[.bool f, .slice A n c] #[.bool f', .slice A' n' c'] #[.bool f3, .slice A3 n3 c3]
  exact ⟨⟨v0, h.step hb⟩, ⟨v1, h'.step hb⟩, ⟨v2, h3.step hb⟩, hb⟩
set_option maxRecDepth 100000 in
set_option maxHeartbeats 16000000 in
theorem ring_out0 {f f' f3 : Bool} {n v n' v' n3 v3 : Nat} (x y z : Value) (w : World) (hx : RawIs w w.heap.size x f n v) (hy : RawIs w w.heap.size y f' n' v') (hz : RawIs w w.heap.size z f3 n3 v3) (g0 : decide ((28 : Int) < (n : Int)) = true) (ht : Tens w) :
    Calls Tryd.prog 10 #[x, y, z] w fun e w' => e = .returned (.bool true) ∧ Below w.heap.size w w' := by
  obtain ⟨A, c, rfl, hx⟩ := hx.look
  obtain ⟨A', c', rfl, hy⟩ := hy.look
  obtain ⟨A3, c3, rfl, hz⟩ := hz.look
  obtain ⟨va, vb, vc, hb⟩ := three_raw hx hy hz
  have RA := Lib.hid va
  have RB := Lib.hid vb
  have RC := Lib.hid vc
  have HB := Lib.hid hb
  have kRA0 := va.cells.1
  have kRA1 := va.cells.2
  have kRB0 := vb.cells.1
  have kRB1 := vb.cells.2
  have kRC0 := vc.cells.1
  have kRC1 := vc.cells.2
  have HT := Lib.hid ht
  clear hx hy hz va vb vc hb ht
  go_enter Tryd.func10, Tryd.ntmps10
  go_wp2_with (fail)
  generalize hW : ((w.alloc (.cells #[.bool f, .slice A n c] 24)).alloc (.cells #[.bool f', .slice A' n' c'] 24)).alloc (.cells #[.bool f3, .slice A3 n3 c3] 24) = W at *
  clear hW
  refine (known_any _ (HT.out.below HB.out)).mono ?_
  rintro e wk ⟨rfl, qk⟩
  have HQ := Lib.hid (bstep HB.out qk)
  clear qk
  clear kRA0 kRA1 kRB0 kRB1 kRC0 kRC1
  go_wp2_with (fail)
  go_ret
  exact ⟨rfl, HQ.out⟩
set_option maxRecDepth 100000 in
set_option maxHeartbeats 16000000 in
theorem ring_out1 {f f' f3 : Bool} {n v n' v' n3 v3 : Nat} (x y z : Value) (w : World) (hx : RawIs w w.heap.size x f n v) (hy : RawIs w w.heap.size y f' n' v') (hz : RawIs w w.heap.size z f3 n3 v3) (g0 : decide ((28 : Int) < (n : Int)) = false) (g1 : decide ((28 : Int) < (n' : Int)) = true) (ht : Tens w) :
    Calls Tryd.prog 10 #[x, y, z] w fun e w' => e = .returned (.bool true) ∧ Below w.heap.size w w' := by
  obtain ⟨A, c, rfl, hx⟩ := hx.look
  obtain ⟨A', c', rfl, hy⟩ := hy.look
  obtain ⟨A3, c3, rfl, hz⟩ := hz.look
  obtain ⟨va, vb, vc, hb⟩ := three_raw hx hy hz
  have RA := Lib.hid va
  have RB := Lib.hid vb
  have RC := Lib.hid vc
  have HB := Lib.hid hb
  have kRA0 := va.cells.1
  have kRA1 := va.cells.2
  have kRB0 := vb.cells.1
  have kRB1 := vb.cells.2
  have kRC0 := vc.cells.1
  have kRC1 := vc.cells.2
  have HT := Lib.hid ht
  clear hx hy hz va vb vc hb ht
  go_enter Tryd.func10, Tryd.ntmps10
  go_wp2_with (fail)
  generalize hW : ((w.alloc (.cells #[.bool f, .slice A n c] 24)).alloc (.cells #[.bool f', .slice A' n' c'] 24)).alloc (.cells #[.bool f3, .slice A3 n3 c3] 24) = W at *
  clear hW
  refine (known_any _ (HT.out.below HB.out)).mono ?_
  rintro e wk ⟨rfl, qk⟩
  have HQ := Lib.hid (bstep HB.out qk)
  clear qk
  clear kRA0 kRA1 kRB0 kRB1 kRC0 kRC1
  go_wp2_with (fail)
  go_ret
  exact ⟨rfl, HQ.out⟩
set_option maxRecDepth 100000 in
set_option maxHeartbeats 16000000 in
theorem ring_out2 {f f' f3 : Bool} {n v n' v' n3 v3 : Nat} (x y z : Value) (w : World) (hx : RawIs w w.heap.size x f n v) (hy : RawIs w w.heap.size y f' n' v') (hz : RawIs w w.heap.size z f3 n3 v3) (g0 : decide ((28 : Int) < (n : Int)) = false) (g1 : decide ((28 : Int) < (n' : Int)) = false) (g2 : decide ((28 : Int) < (n3 : Int)) = true) (ht : Tens w) :
    Calls Tryd.prog 10 #[x, y, z] w fun e w' => e = .returned (.bool true) ∧ Below w.heap.size w w' := by
  obtain ⟨A, c, rfl, hx⟩ := hx.look
  obtain ⟨A', c', rfl, hy⟩ := hy.look
  obtain ⟨A3, c3, rfl, hz⟩ := hz.look
  obtain ⟨va, vb, vc, hb⟩ := three_raw hx hy hz
  have RA := Lib.hid va
  have RB := Lib.hid vb
  have RC := Lib.hid vc
  have HB := Lib.hid hb
  have kRA0 := va.cells.1
  have kRA1 := va.cells.2
  have kRB0 := vb.cells.1
  have kRB1 := vb.cells.2
  have kRC0 := vc.cells.1
  have kRC1 := vc.cells.2
  have HT := Lib.hid ht
  clear hx hy hz va vb vc hb ht
  go_enter Tryd.func10, Tryd.ntmps10
  go_wp2_with (fail)
  generalize hW : ((w.alloc (.cells #[.bool f, .slice A n c] 24)).alloc (.cells #[.bool f', .slice A' n' c'] 24)).alloc (.cells #[.bool f3, .slice A3 n3 c3] 24) = W at *
  clear hW
  refine (known_any _ (HT.out.below HB.out)).mono ?_
  rintro e wk ⟨rfl, qk⟩
  have HQ := Lib.hid (bstep HB.out qk)
  clear qk
  clear kRA0 kRA1 kRB0 kRB1 kRC0 kRC1
  go_wp2_with (fail)
  go_ret
  exact ⟨rfl, HQ.out⟩
set_option maxRecDepth 100000 in
set_option maxHeartbeats 16000000 in
theorem ring_out3 {f f' f3 : Bool} {n v n' v' n3 v3 : Nat} (x y z : Value) (w : World) (hx : RawIs w w.heap.size x f n v) (hy : RawIs w w.heap.size y f' n' v') (hz : RawIs w w.heap.size z f3 n3 v3) (g0 : decide ((28 : Int) < (n : Int)) = false) (g1 : decide ((28 : Int) < (n' : Int)) = false) (g2 : decide ((28 : Int) < (n3 : Int)) = false) (h0 : validB f n v = false) (ht : Tens w) :
    Calls Tryd.prog 10 #[x, y, z] w fun e w' => e = .returned (.bool true) ∧ Below w.heap.size w w' := by
  have H0 := Lib.hid h0
  clear h0
  obtain ⟨A, c, rfl, hx⟩ := hx.look
  obtain ⟨A', c', rfl, hy⟩ := hy.look
  obtain ⟨A3, c3, rfl, hz⟩ := hz.look
  obtain ⟨va, vb, vc, hb⟩ := three_raw hx hy hz
  have RA := Lib.hid va
  have RB := Lib.hid vb
  have RC := Lib.hid vc
  have HB := Lib.hid hb
  have kRA0 := va.cells.1
  have kRA1 := va.cells.2
  have kRB0 := vb.cells.1
  have kRB1 := vb.cells.2
  have kRC0 := vc.cells.1
  have kRC1 := vc.cells.2
  have HT := Lib.hid ht
  clear hx hy hz va vb vc hb ht
  go_enter Tryd.func10, Tryd.ntmps10
  go_wp2_with (fail)
  generalize hW : ((w.alloc (.cells #[.bool f, .slice A n c] 24)).alloc (.cells #[.bool f', .slice A' n' c'] 24)).alloc (.cells #[.bool f3, .slice A3 n3 c3] 24) = W at *
  clear hW
  refine (rvalid_is _ _ RA.out.2).mono ?_
  rw [H0.out]
  rintro e w_1 ⟨rfl, qq⟩
  clear kRA0 kRA1 kRB0 kRB1 kRC0 kRC1
  have HB := Lib.hid (bstep HB.out qq)
  have RA := Lib.hid (RA.out.step qq)
  have RB := Lib.hid (RB.out.step qq)
  have RC := Lib.hid (RC.out.step qq)
  clear qq
  have kRA0 := RA.out.cells.1
  have kRA1 := RA.out.cells.2
  have kRB0 := RB.out.cells.1
  have kRB1 := RB.out.cells.2
  have kRC0 := RC.out.cells.1
  have kRC1 := RC.out.cells.2
  go_wp2_with (fail)
  refine (known_any _ (HT.out.below HB.out)).mono ?_
  rintro e wk ⟨rfl, qk⟩
  have HQ := Lib.hid (bstep HB.out qk)
  clear qk
  clear kRA0 kRA1 kRB0 kRB1 kRC0 kRC1
  go_wp2_with (fail)
  go_ret
  exact ⟨rfl, HQ.out⟩
set_option maxRecDepth 100000 in
set_option maxHeartbeats 16000000 in
theorem ring_out4 {f f' f3 : Bool} {n v n' v' n3 v3 : Nat} (x y z : Value) (w : World) (hx : RawIs w w.heap.size x f n v) (hy : RawIs w w.heap.size y f' n' v') (hz : RawIs w w.heap.size z f3 n3 v3) (g0 : decide ((28 : Int) < (n : Int)) = false) (g1 : decide ((28 : Int) < (n' : Int)) = false) (g2 : decide ((28 : Int) < (n3 : Int)) = false) (h0 : validB f n v = true) (h1 : validB f' n' v' = false) (ht : Tens w) :
    Calls Tryd.prog 10 #[x, y, z] w fun e w' => e = .returned (.bool true) ∧ Below w.heap.size w w' := by
  have H0 := Lib.hid h0
  clear h0
  have H1 := Lib.hid h1
  clear h1
  obtain ⟨A, c, rfl, hx⟩ := hx.look
  obtain ⟨A', c', rfl, hy⟩ := hy.look
  obtain ⟨A3, c3, rfl, hz⟩ := hz.look
  obtain ⟨va, vb, vc, hb⟩ := three_raw hx hy hz
  have RA := Lib.hid va
  have RB := Lib.hid vb
  have RC := Lib.hid vc
  have HB := Lib.hid hb
  have kRA0 := va.cells.1
  have kRA1 := va.cells.2
  have kRB0 := vb.cells.1
  have kRB1 := vb.cells.2
  have kRC0 := vc.cells.1
  have kRC1 := vc.cells.2
  have HT := Lib.hid ht
  clear hx hy hz va vb vc hb ht
  go_enter Tryd.func10, Tryd.ntmps10
  go_wp2_with (fail)
  generalize hW : ((w.alloc (.cells #[.bool f, .slice A n c] 24)).alloc (.cells #[.bool f', .slice A' n' c'] 24)).alloc (.cells #[.bool f3, .slice A3 n3 c3] 24) = W at *
  clear hW
  refine (rvalid_is _ _ RA.out.2).mono ?_
  rw [H0.out]
  rintro e w_1 ⟨rfl, qq⟩
  clear kRA0 kRA1 kRB0 kRB1 kRC0 kRC1
  have HB := Lib.hid (bstep HB.out qq)
  have RA := Lib.hid (RA.out.step qq)
  have RB := Lib.hid (RB.out.step qq)
  have RC := Lib.hid (RC.out.step qq)
  clear qq
  have kRA0 := RA.out.cells.1
  have kRA1 := RA.out.cells.2
  have kRB0 := RB.out.cells.1
  have kRB1 := RB.out.cells.2
  have kRC0 := RC.out.cells.1
  have kRC1 := RC.out.cells.2
  go_wp2_with (fail)
  refine (rvalid_is _ _ RB.out.2).mono ?_
  rw [H1.out]
  rintro e w_2 ⟨rfl, qq⟩
  clear kRA0 kRA1 kRB0 kRB1 kRC0 kRC1
  have HB := Lib.hid (bstep HB.out qq)
  have RA := Lib.hid (RA.out.step qq)
  have RB := Lib.hid (RB.out.step qq)
  have RC := Lib.hid (RC.out.step qq)
  clear qq
  have kRA0 := RA.out.cells.1
  have kRA1 := RA.out.cells.2
  have kRB0 := RB.out.cells.1
  have kRB1 := RB.out.cells.2
  have kRC0 := RC.out.cells.1
  have kRC1 := RC.out.cells.2
  go_wp2_with (fail)
  refine (known_any _ (HT.out.below HB.out)).mono ?_
  rintro e wk ⟨rfl, qk⟩
  have HQ := Lib.hid (bstep HB.out qk)
  clear qk
  clear kRA0 kRA1 kRB0 kRB1 kRC0 kRC1
  go_wp2_with (fail)
  go_ret
  exact ⟨rfl, HQ.out⟩
set_option maxRecDepth 100000 in
set_option maxHeartbeats 16000000 in
theorem ring_out5 {f f' f3 : Bool} {n v n' v' n3 v3 : Nat} (x y z : Value) (w : World) (hx : RawIs w w.heap.size x f n v) (hy : RawIs w w.heap.size y f' n' v') (hz : RawIs w w.heap.size z f3 n3 v3) (g0 : decide ((28 : Int) < (n : Int)) = false) (g1 : decide ((28 : Int) < (n' : Int)) = false) (g2 : decide ((28 : Int) < (n3 : Int)) = false) (h0 : validB f n v = true) (h1 : validB f' n' v' = true) (h2 : validB f3 n3 v3 = false) (ht : Tens w) :
    Calls Tryd.prog 10 #[x, y, z] w fun e w' => e = .returned (.bool true) ∧ Below w.heap.size w w' := by
  have H0 := Lib.hid h0
  clear h0
  have H1 := Lib.hid h1
  clear h1
  have H2 := Lib.hid h2
  clear h2
  obtain ⟨A, c, rfl, hx⟩ := hx.look
  obtain ⟨A', c', rfl, hy⟩ := hy.look
  obtain ⟨A3, c3, rfl, hz⟩ := hz.look
  obtain ⟨va, vb, vc, hb⟩ := three_raw hx hy hz
  have RA := Lib.hid va
  have RB := Lib.hid vb
  have RC := Lib.hid vc
  have HB := Lib.hid hb
  have kRA0 := va.cells.1
  have kRA1 := va.cells.2
  have kRB0 := vb.cells.1
  have kRB1 := vb.cells.2
  have kRC0 := vc.cells.1
  have kRC1 := vc.cells.2
  have HT := Lib.hid ht
  clear hx hy hz va vb vc hb ht
  go_enter Tryd.func10, Tryd.ntmps10
  go_wp2_with (fail)
  generalize hW : ((w.alloc (.cells #[.bool f, .slice A n c] 24)).alloc (.cells #[.bool f', .slice A' n' c'] 24)).alloc (.cells #[.bool f3, .slice A3 n3 c3] 24) = W at *
  clear hW
  refine (rvalid_is _ _ RA.out.2).mono ?_
  rw [H0.out]
  rintro e w_1 ⟨rfl, qq⟩
  clear kRA0 kRA1 kRB0 kRB1 kRC0 kRC1
  have HB := Lib.hid (bstep HB.out qq)
  have RA := Lib.hid (RA.out.step qq)
  have RB := Lib.hid (RB.out.step qq)
  have RC := Lib.hid (RC.out.step qq)
  clear qq
  have kRA0 := RA.out.cells.1
  have kRA1 := RA.out.cells.2
  have kRB0 := RB.out.cells.1
  have kRB1 := RB.out.cells.2
  have kRC0 := RC.out.cells.1
  have kRC1 := RC.out.cells.2
  go_wp2_with (fail)
  refine (rvalid_is _ _ RB.out.2).mono ?_
  rw [H1.out]
  rintro e w_2 ⟨rfl, qq⟩
  clear kRA0 kRA1 kRB0 kRB1 kRC0 kRC1
  have HB := Lib.hid (bstep HB.out qq)
  have RA := Lib.hid (RA.out.step qq)
  have RB := Lib.hid (RB.out.step qq)
  have RC := Lib.hid (RC.out.step qq)
  clear qq
  have kRA0 := RA.out.cells.1
  have kRA1 := RA.out.cells.2
  have kRB0 := RB.out.cells.1
  have kRB1 := RB.out.cells.2
  have kRC0 := RC.out.cells.1
  have kRC1 := RC.out.cells.2
  go_wp2_with (fail)
  refine (rvalid_is _ _ RC.out.2).mono ?_
  rw [H2.out]
  rintro e w_3 ⟨rfl, qq⟩
  clear kRA0 kRA1 kRB0 kRB1 kRC0 kRC1
  have HB := Lib.hid (bstep HB.out qq)
  have RA := Lib.hid (RA.out.step qq)
  have RB := Lib.hid (RB.out.step qq)
  have RC := Lib.hid (RC.out.step qq)
  clear qq
  have kRA0 := RA.out.cells.1
  have kRA1 := RA.out.cells.2
  have kRB0 := RB.out.cells.1
  have kRB1 := RB.out.cells.2
  have kRC0 := RC.out.cells.1
  have kRC1 := RC.out.cells.2
  go_wp2_with (fail)
  refine (known_any _ (HT.out.below HB.out)).mono ?_
  rintro e wk ⟨rfl, qk⟩
  have HQ := Lib.hid (bstep HB.out qk)
  clear qk
  clear kRA0 kRA1 kRB0 kRB1 kRC0 kRC1
  go_wp2_with (fail)
  go_ret
  exact ⟨rfl, HQ.out⟩
end Go.Proofs.YtnkklmbmodkogaaDoor

/-! Ri3 -/
namespace Go.Proofs.YtnkklmbmodkogaaDoor
open Go.RowKit

set_option maxRecDepth 100000 in
set_option maxHeartbeats 16000000 in
theorem ring_zero (x y z : Value) (a b c0 : Int) (w : World) (hz : IntIs w w.heap.size x a) (hz' : IntIs w w.heap.size y b) (hz3 : IntIs w w.heap.size z c0) (h0 : blen a.natAbs ≤ 28) (h1 : blen b.natAbs ≤ 28) (h2 : blen c0.natAbs ≤ 28) (hb0 : b = 0) (ht : Tens w) :
    Calls Tryd.prog 10 #[x, y, z] w fun e w' => e = .returned (.bool true) ∧ Below w.heap.size w w' := by
  have hx := hz.raw
  have hy := hz'.raw
  have hw := hz3.raw
  obtain ⟨f, hf⟩ : ∃ f, f = decide (a < 0) := ⟨_, rfl⟩
  obtain ⟨n, hn⟩ : ∃ n, n = blen a.natAbs := ⟨_, rfl⟩
  obtain ⟨f', hf'⟩ : ∃ f, f = decide (b < 0) := ⟨_, rfl⟩
  obtain ⟨n', hn'⟩ : ∃ n, n = blen b.natAbs := ⟨_, rfl⟩
  obtain ⟨f3, hf3⟩ : ∃ f, f = decide (c0 < 0) := ⟨_, rfl⟩
  obtain ⟨n3, hn3⟩ : ∃ n, n = blen c0.natAbs := ⟨_, rfl⟩
  rw [← hf, ← hn] at hx
  rw [← hf', ← hn'] at hy
  rw [← hf3, ← hn3] at hw
  have HZA := Lib.hid hz
  have HZB := Lib.hid hz'
  have HZC := Lib.hid hz3
  have H0 := Lib.hid (show validB f n a.natAbs = true by rw [hf, hn]; exact valid_of (by omega))
  have H1 := Lib.hid (show validB f' n' b.natAbs = true by rw [hf', hn']; exact valid_of (by omega))
  have H2 := Lib.hid (show validB f3 n3 c0.natAbs = true by rw [hf3, hn3]; exact valid_of (by omega))
  have g0 : decide ((28 : Int) < (n : Int)) = false := by simp; omega
  have g1 : decide ((28 : Int) < (n' : Int)) = false := by simp; omega
  have g2 : decide ((28 : Int) < (n3 : Int)) = false := by simp; omega
  have bX : blen (a + b).natAbs ≤ 29 := blenz_add h0 h1
  have bP : blen (a * b).natAbs ≤ 56 := blenz_mul (by omega)
  have bS : blen (c0 * (a + b)).natAbs ≤ 57 := blenz_mul (by omega)
  have bT : blen (c0 * a).natAbs ≤ 56 := blenz_mul (by omega)
  have bU : blen (c0 * b).natAbs ≤ 56 := blenz_mul (by omega)
  have HADD1 := Lib.hid (fun x y w hx hy => add_to (a := a) (b := b) rfl (by omega) (by omega) (by omega) x y w hx hy)
  have HADD2 := Lib.hid (fun x y w hx hy => add_to (a := b) (b := a) (Int.add_comm b a) (by omega) (by omega) (by omega) x y w hx hy)
  have HSUB := Lib.hid (fun x y w hx hy => sub_to (a := a + b) (b := b) (c := a) (by omega) (by omega) (by omega) (by omega) x y w hx hy)
  have HMUL1 := Lib.hid (fun x y w hx hy => mul_to (a := a) (b := b) rfl (by omega) (by omega) (by omega) x y w hx hy)
  have HMUL2 := Lib.hid (fun x y w hx hy => mul_to (a := b) (b := a) (Int.mul_comm b a) (by omega) (by omega) (by omega) x y w hx hy)
  have HMUL3 := Lib.hid (fun x y w hx hy => mul_to (a := c0) (b := a + b) rfl (by omega) (by omega) (by omega) x y w hx hy)
  have HMUL4 := Lib.hid (fun x y w hx hy => mul_to (a := c0) (b := a) rfl (by omega) (by omega) (by omega) x y w hx hy)
  have HMUL5 := Lib.hid (fun x y w hx hy => mul_to (a := c0) (b := b) rfl (by omega) (by omega) (by omega) x y w hx hy)
  have HADD3 := Lib.hid (fun x y w hx hy => add_to (a := c0 * a) (b := c0 * b) (c := c0 * (a + b)) (Int.mul_add c0 a b).symm (by omega) (by omega) (by omega) x y w hx hy)
  have HSGB := Lib.hid (fun x w hx => sign_num x b w hx (by omega))
  have hsb : (cmpZ b 0 == 0) = true := by rw [hb0]; rfl
  clear hb0
  clear hf hf' hf3 hn hn' hn3 h0 h1 h2 bX bP bS bT bU hz hz' hz3
  generalize c0 * (a + b) = zs at *
  generalize a + b = zx at *
  generalize a * b = zp at *
  generalize c0 * a = zt at *
  generalize c0 * b = zu at *
  generalize hcb : cmpZ b 0 = cb at *
  have hz := hw
  clear hw
  obtain ⟨A, c, rfl, hx⟩ := hx.look
  obtain ⟨A', c', rfl, hy⟩ := hy.look
  obtain ⟨A3, c3, rfl, hz⟩ := hz.look
  obtain ⟨va, vb, vc, hb⟩ := three_raw hx hy hz
  have RA := Lib.hid va
  have RB := Lib.hid vb
  have RC := Lib.hid vc
  have HB := Lib.hid hb
  have kRA0 := va.cells.1
  have kRA1 := va.cells.2
  have kRB0 := vb.cells.1
  have kRB1 := vb.cells.2
  have kRC0 := vc.cells.1
  have kRC1 := vc.cells.2
  have HT := Lib.hid ht
  clear hx hy hz va vb vc hb ht
  go_enter Tryd.func10, Tryd.ntmps10
  go_wp2_with (fail)
  generalize hW : ((w.alloc (.cells #[.bool f, .slice A n c] 24)).alloc (.cells #[.bool f', .slice A' n' c'] 24)).alloc (.cells #[.bool f3, .slice A3 n3 c3] 24) = W at *
  clear hW
  have VA := Lib.hid (show IntVar W w.heap.size f A n c a from ⟨RA.out.1, HZA.out.step HB.out⟩)
  have VB := Lib.hid (show IntVar W (w.heap.size + 1) f' A' n' c' b from ⟨RB.out.1, HZB.out.step HB.out⟩)
  have VC := Lib.hid (show IntVar W (w.heap.size + 2) f3 A3 n3 c3 c0 from ⟨RC.out.1, HZC.out.step HB.out⟩)
  clear HZA HZB HZC
  refine (rvalid_is _ _ RA.out.2).mono ?_
  rw [H0.out]
  rintro e w_1 ⟨rfl, qq⟩
  clear kRA0 kRA1 kRB0 kRB1 kRC0 kRC1
  have HB := Lib.hid (bstep HB.out qq)
  have RA := Lib.hid (RA.out.step qq)
  have RB := Lib.hid (RB.out.step qq)
  have RC := Lib.hid (RC.out.step qq)
  have VA := Lib.hid (VA.out.step qq)
  have VB := Lib.hid (VB.out.step qq)
  have VC := Lib.hid (VC.out.step qq)
  clear qq
  have kRA0 := RA.out.cells.1
  have kRA1 := RA.out.cells.2
  have kRB0 := RB.out.cells.1
  have kRB1 := RB.out.cells.2
  have kRC0 := RC.out.cells.1
  have kRC1 := RC.out.cells.2
  go_wp2_with (fail)
  refine (rvalid_is _ _ RB.out.2).mono ?_
  rw [H1.out]
  rintro e w_2 ⟨rfl, qq⟩
  clear kRA0 kRA1 kRB0 kRB1 kRC0 kRC1
  have HB := Lib.hid (bstep HB.out qq)
  have RA := Lib.hid (RA.out.step qq)
  have RB := Lib.hid (RB.out.step qq)
  have RC := Lib.hid (RC.out.step qq)
  have VA := Lib.hid (VA.out.step qq)
  have VB := Lib.hid (VB.out.step qq)
  have VC := Lib.hid (VC.out.step qq)
  clear qq
  have kRA0 := RA.out.cells.1
  have kRA1 := RA.out.cells.2
  have kRB0 := RB.out.cells.1
  have kRB1 := RB.out.cells.2
  have kRC0 := RC.out.cells.1
  have kRC1 := RC.out.cells.2
  go_wp2_with (fail)
  refine (rvalid_is _ _ RC.out.2).mono ?_
  rw [H2.out]
  rintro e w_3 ⟨rfl, qq⟩
  clear kRA0 kRA1 kRB0 kRB1 kRC0 kRC1
  have HB := Lib.hid (bstep HB.out qq)
  have RA := Lib.hid (RA.out.step qq)
  have RB := Lib.hid (RB.out.step qq)
  have RC := Lib.hid (RC.out.step qq)
  have VA := Lib.hid (VA.out.step qq)
  have VB := Lib.hid (VB.out.step qq)
  have VC := Lib.hid (VC.out.step qq)
  clear qq
  have kVA0 := VA.out.cells.1
  have kVA1 := VA.out.cells.2
  have kVB0 := VB.out.cells.1
  have kVB1 := VB.out.cells.2
  go_wp2_with (fail)
  clear RA RB RC H0 H1 H2 g0 g1 g2
  refine (HADD1.out _ _ _ VA.out.2 VB.out.2).mono ?_
  rintro e w_4 ⟨⟨yy, rfl, j1⟩, qq⟩
  obtain ⟨fVX, AVX, nVX, cVX, rfl, j1, -, -⟩ := j1.look
  have VX := Lib.hid (IntVar.new j1)
  have qa := bstep qq (below_alloc w_4 (.cells #[.bool fVX, .slice AVX nVX cVX] 24))
  clear kVA0 kVA1 kVB0 kVB1
  have HB := Lib.hid (bstep HB.out qa)
  have VA := Lib.hid (VA.out.step qa)
  have VB := Lib.hid (VB.out.step qa)
  have VC := Lib.hid (VC.out.step qa)
  clear qq qa j1
  have kVA0 := VA.out.cells.1
  have kVA1 := VA.out.cells.2
  have kVB0 := VB.out.cells.1
  have kVB1 := VB.out.cells.2
  go_wp2_with (fail)
  generalize hW : (w_4.alloc (.cells #[.bool fVX, .slice AVX nVX cVX] 24)) = W_5 at *
  clear hW
  generalize w_4.heap.size = b_6 at *
  refine (HADD2.out _ _ _ VB.out.2 VA.out.2).mono ?_
  rintro e w_7 ⟨⟨yy, rfl, j1⟩, qq⟩
  obtain ⟨fVY, AVY, nVY, cVY, rfl, j1, -, -⟩ := j1.look
  have VY := Lib.hid (IntVar.new j1)
  have qa := bstep qq (below_alloc w_7 (.cells #[.bool fVY, .slice AVY nVY cVY] 24))
  clear kVA0 kVA1 kVB0 kVB1
  have HB := Lib.hid (bstep HB.out qa)
  have VA := Lib.hid (VA.out.step qa)
  have VB := Lib.hid (VB.out.step qa)
  have VC := Lib.hid (VC.out.step qa)
  have VX := Lib.hid (VX.out.step qa)
  clear qq qa j1
  have kVX0 := VX.out.cells.1
  have kVX1 := VX.out.cells.2
  have kVB0 := VB.out.cells.1
  have kVB1 := VB.out.cells.2
  go_wp2_with (fail)
  generalize hW : (w_7.alloc (.cells #[.bool fVY, .slice AVY nVY cVY] 24)) = W_8 at *
  clear hW
  generalize w_7.heap.size = b_9 at *
  refine (HSUB.out _ _ _ VX.out.2 VB.out.2).mono ?_
  rintro e w_10 ⟨⟨yy, rfl, j1⟩, qq⟩
  obtain ⟨fVZ, AVZ, nVZ, cVZ, rfl, j1, -, -⟩ := j1.look
  have VZ := Lib.hid (IntVar.new j1)
  have qa := bstep qq (below_alloc w_10 (.cells #[.bool fVZ, .slice AVZ nVZ cVZ] 24))
  clear kVX0 kVX1 kVB0 kVB1
  have HB := Lib.hid (bstep HB.out qa)
  have VA := Lib.hid (VA.out.step qa)
  have VB := Lib.hid (VB.out.step qa)
  have VC := Lib.hid (VC.out.step qa)
  have VX := Lib.hid (VX.out.step qa)
  have VY := Lib.hid (VY.out.step qa)
  clear qq qa j1
  have kVA0 := VA.out.cells.1
  have kVA1 := VA.out.cells.2
  have kVB0 := VB.out.cells.1
  have kVB1 := VB.out.cells.2
  go_wp2_with (fail)
  generalize hW : (w_10.alloc (.cells #[.bool fVZ, .slice AVZ nVZ cVZ] 24)) = W_11 at *
  clear hW
  generalize w_10.heap.size = b_12 at *
  refine (HMUL1.out _ _ _ VA.out.2 VB.out.2).mono ?_
  rintro e w_13 ⟨⟨yy, rfl, j1⟩, qq⟩
  obtain ⟨fVP, AVP, nVP, cVP, rfl, j1, -, -⟩ := j1.look
  have VP := Lib.hid (IntVar.new j1)
  have qa := bstep qq (below_alloc w_13 (.cells #[.bool fVP, .slice AVP nVP cVP] 24))
  clear kVA0 kVA1 kVB0 kVB1
  have HB := Lib.hid (bstep HB.out qa)
  have VA := Lib.hid (VA.out.step qa)
  have VB := Lib.hid (VB.out.step qa)
  have VC := Lib.hid (VC.out.step qa)
  have VX := Lib.hid (VX.out.step qa)
  have VY := Lib.hid (VY.out.step qa)
  have VZ := Lib.hid (VZ.out.step qa)
  clear qq qa j1
  have kVA0 := VA.out.cells.1
  have kVA1 := VA.out.cells.2
  have kVB0 := VB.out.cells.1
  have kVB1 := VB.out.cells.2
  go_wp2_with (fail)
  generalize hW : (w_13.alloc (.cells #[.bool fVP, .slice AVP nVP cVP] 24)) = W_14 at *
  clear hW
  generalize w_13.heap.size = b_15 at *
  refine (HMUL2.out _ _ _ VB.out.2 VA.out.2).mono ?_
  rintro e w_16 ⟨⟨yy, rfl, j1⟩, qq⟩
  obtain ⟨fVQ, AVQ, nVQ, cVQ, rfl, j1, -, -⟩ := j1.look
  have VQ := Lib.hid (IntVar.new j1)
  have qa := bstep qq (below_alloc w_16 (.cells #[.bool fVQ, .slice AVQ nVQ cVQ] 24))
  clear kVA0 kVA1 kVB0 kVB1
  have HB := Lib.hid (bstep HB.out qa)
  have VA := Lib.hid (VA.out.step qa)
  have VB := Lib.hid (VB.out.step qa)
  have VC := Lib.hid (VC.out.step qa)
  have VX := Lib.hid (VX.out.step qa)
  have VY := Lib.hid (VY.out.step qa)
  have VZ := Lib.hid (VZ.out.step qa)
  have VP := Lib.hid (VP.out.step qa)
  clear qq qa j1
  have kVX0 := VX.out.cells.1
  have kVX1 := VX.out.cells.2
  have kVY0 := VY.out.cells.1
  have kVY1 := VY.out.cells.2
  go_wp2_with (fail)
  generalize hW : (w_16.alloc (.cells #[.bool fVQ, .slice AVQ nVQ cVQ] 24)) = W_17 at *
  clear hW
  generalize w_16.heap.size = b_18 at *
  refine (same_int _ _ _ _ _ VX.out.2 VY.out.2).mono ?_
  rw [decide_eq_true rfl]
  rintro e w_19 ⟨rfl, qq⟩
  clear kVX0 kVX1 kVY0 kVY1
  have HB := Lib.hid (bstep HB.out qq)
  have VA := Lib.hid (VA.out.step qq)
  have VB := Lib.hid (VB.out.step qq)
  have VC := Lib.hid (VC.out.step qq)
  have VX := Lib.hid (VX.out.step qq)
  have VY := Lib.hid (VY.out.step qq)
  have VZ := Lib.hid (VZ.out.step qq)
  have VP := Lib.hid (VP.out.step qq)
  have VQ := Lib.hid (VQ.out.step qq)
  clear qq
  have kVZ0 := VZ.out.cells.1
  have kVZ1 := VZ.out.cells.2
  have kVA0 := VA.out.cells.1
  have kVA1 := VA.out.cells.2
  go_wp2_with (fail)
  refine (same_int _ _ _ _ _ VZ.out.2 VA.out.2).mono ?_
  rw [decide_eq_true rfl]
  rintro e w_20 ⟨rfl, qq⟩
  clear kVZ0 kVZ1 kVA0 kVA1
  have HB := Lib.hid (bstep HB.out qq)
  have VA := Lib.hid (VA.out.step qq)
  have VB := Lib.hid (VB.out.step qq)
  have VC := Lib.hid (VC.out.step qq)
  have VX := Lib.hid (VX.out.step qq)
  have VY := Lib.hid (VY.out.step qq)
  have VZ := Lib.hid (VZ.out.step qq)
  have VP := Lib.hid (VP.out.step qq)
  have VQ := Lib.hid (VQ.out.step qq)
  clear qq
  have kVP0 := VP.out.cells.1
  have kVP1 := VP.out.cells.2
  have kVQ0 := VQ.out.cells.1
  have kVQ1 := VQ.out.cells.2
  go_wp2_with (fail)
  refine (same_int _ _ _ _ _ VP.out.2 VQ.out.2).mono ?_
  rw [decide_eq_true rfl]
  rintro e w_21 ⟨rfl, qq⟩
  clear kVP0 kVP1 kVQ0 kVQ1
  have HB := Lib.hid (bstep HB.out qq)
  have VA := Lib.hid (VA.out.step qq)
  have VB := Lib.hid (VB.out.step qq)
  have VC := Lib.hid (VC.out.step qq)
  have VX := Lib.hid (VX.out.step qq)
  have VY := Lib.hid (VY.out.step qq)
  have VZ := Lib.hid (VZ.out.step qq)
  have VP := Lib.hid (VP.out.step qq)
  have VQ := Lib.hid (VQ.out.step qq)
  clear qq
  have kVC0 := VC.out.cells.1
  have kVC1 := VC.out.cells.2
  have kVX0 := VX.out.cells.1
  have kVX1 := VX.out.cells.2
  go_wp2_with (fail)
  clear VY VZ VP VQ
  refine (HMUL3.out _ _ _ VC.out.2 VX.out.2).mono ?_
  rintro e w_22 ⟨⟨yy, rfl, j1⟩, qq⟩
  obtain ⟨fVS, AVS, nVS, cVS, rfl, j1, -, -⟩ := j1.look
  have VS := Lib.hid (IntVar.new j1)
  have qa := bstep qq (below_alloc w_22 (.cells #[.bool fVS, .slice AVS nVS cVS] 24))
  clear kVC0 kVC1 kVX0 kVX1
  have HB := Lib.hid (bstep HB.out qa)
  have VA := Lib.hid (VA.out.step qa)
  have VB := Lib.hid (VB.out.step qa)
  have VC := Lib.hid (VC.out.step qa)
  have VX := Lib.hid (VX.out.step qa)
  clear qq qa j1
  have kVC0 := VC.out.cells.1
  have kVC1 := VC.out.cells.2
  have kVA0 := VA.out.cells.1
  have kVA1 := VA.out.cells.2
  go_wp2_with (fail)
  generalize hW : (w_22.alloc (.cells #[.bool fVS, .slice AVS nVS cVS] 24)) = W_23 at *
  clear hW
  generalize w_22.heap.size = b_24 at *
  refine (HMUL4.out _ _ _ VC.out.2 VA.out.2).mono ?_
  rintro e w_25 ⟨⟨yy, rfl, j1⟩, qq⟩
  obtain ⟨fVT, AVT, nVT, cVT, rfl, j1, -, -⟩ := j1.look
  have VT := Lib.hid (IntVar.new j1)
  have qa := bstep qq (below_alloc w_25 (.cells #[.bool fVT, .slice AVT nVT cVT] 24))
  clear kVC0 kVC1 kVA0 kVA1
  have HB := Lib.hid (bstep HB.out qa)
  have VA := Lib.hid (VA.out.step qa)
  have VB := Lib.hid (VB.out.step qa)
  have VC := Lib.hid (VC.out.step qa)
  have VX := Lib.hid (VX.out.step qa)
  have VS := Lib.hid (VS.out.step qa)
  clear qq qa j1
  have kVC0 := VC.out.cells.1
  have kVC1 := VC.out.cells.2
  have kVB0 := VB.out.cells.1
  have kVB1 := VB.out.cells.2
  go_wp2_with (fail)
  generalize hW : (w_25.alloc (.cells #[.bool fVT, .slice AVT nVT cVT] 24)) = W_26 at *
  clear hW
  generalize w_25.heap.size = b_27 at *
  refine (HMUL5.out _ _ _ VC.out.2 VB.out.2).mono ?_
  rintro e w_28 ⟨⟨yy, rfl, j1⟩, qq⟩
  obtain ⟨fVU, AVU, nVU, cVU, rfl, j1, -, -⟩ := j1.look
  have VU := Lib.hid (IntVar.new j1)
  have qa := bstep qq (below_alloc w_28 (.cells #[.bool fVU, .slice AVU nVU cVU] 24))
  clear kVC0 kVC1 kVB0 kVB1
  have HB := Lib.hid (bstep HB.out qa)
  have VA := Lib.hid (VA.out.step qa)
  have VB := Lib.hid (VB.out.step qa)
  have VC := Lib.hid (VC.out.step qa)
  have VX := Lib.hid (VX.out.step qa)
  have VS := Lib.hid (VS.out.step qa)
  have VT := Lib.hid (VT.out.step qa)
  clear qq qa j1
  have kVT0 := VT.out.cells.1
  have kVT1 := VT.out.cells.2
  have kVU0 := VU.out.cells.1
  have kVU1 := VU.out.cells.2
  go_wp2_with (fail)
  generalize hW : (w_28.alloc (.cells #[.bool fVU, .slice AVU nVU cVU] 24)) = W_29 at *
  clear hW
  generalize w_28.heap.size = b_30 at *
  refine (HADD3.out _ _ _ VT.out.2 VU.out.2).mono ?_
  rintro e w_31 ⟨⟨yy, rfl, j1⟩, qq⟩
  obtain ⟨fVV, AVV, nVV, cVV, rfl, j1, -, -⟩ := j1.look
  have VV := Lib.hid (IntVar.new j1)
  have qa := bstep qq (below_alloc w_31 (.cells #[.bool fVV, .slice AVV nVV cVV] 24))
  clear kVT0 kVT1 kVU0 kVU1
  have HB := Lib.hid (bstep HB.out qa)
  have VA := Lib.hid (VA.out.step qa)
  have VB := Lib.hid (VB.out.step qa)
  have VC := Lib.hid (VC.out.step qa)
  have VX := Lib.hid (VX.out.step qa)
  have VS := Lib.hid (VS.out.step qa)
  have VT := Lib.hid (VT.out.step qa)
  have VU := Lib.hid (VU.out.step qa)
  clear qq qa j1
  have kVS0 := VS.out.cells.1
  have kVS1 := VS.out.cells.2
  have kVV0 := VV.out.cells.1
  have kVV1 := VV.out.cells.2
  go_wp2_with (fail)
  generalize hW : (w_31.alloc (.cells #[.bool fVV, .slice AVV nVV cVV] 24)) = W_32 at *
  clear hW
  generalize w_31.heap.size = b_33 at *
  refine (same_int _ _ _ _ _ VS.out.2 VV.out.2).mono ?_
  rw [decide_eq_true rfl]
  rintro e w_34 ⟨rfl, qq⟩
  clear kVS0 kVS1 kVV0 kVV1
  have HB := Lib.hid (bstep HB.out qq)
  have VA := Lib.hid (VA.out.step qq)
  have VB := Lib.hid (VB.out.step qq)
  have VC := Lib.hid (VC.out.step qq)
  have VX := Lib.hid (VX.out.step qq)
  have VS := Lib.hid (VS.out.step qq)
  have VT := Lib.hid (VT.out.step qq)
  have VU := Lib.hid (VU.out.step qq)
  have VV := Lib.hid (VV.out.step qq)
  clear qq
  have kVB0 := VB.out.cells.1
  have kVB1 := VB.out.cells.2
  go_wp2_with (fail)
  clear VS VT VU VV VX VC
  refine (HSGB.out _ _ VB.out.2).mono ?_
  rintro e w_35 ⟨rfl, qq⟩
  clear kVB0 kVB1
  have HB := Lib.hid (bstep HB.out qq)
  have VA := Lib.hid (VA.out.step qq)
  have VB := Lib.hid (VB.out.step qq)
  clear qq
  have kVB0 := VB.out.cells.1
  have kVB1 := VB.out.cells.2
  go_wp2_with (fail)
  refine (known_any _ (HT.out.below HB.out)).mono ?_
  rintro e wk ⟨rfl, qk⟩
  have HQ := Lib.hid (bstep HB.out qk)
  clear qk
  clear kVB0 kVB1
  go_wp2_with (fail)
  go_ret
  exact ⟨rfl, HQ.out⟩
end Go.Proofs.YtnkklmbmodkogaaDoor

/-! Ri4 -/
namespace Go.Proofs.YtnkklmbmodkogaaDoor
open Go.RowKit

theorem cmp_three {r cb : Int} (h : r = 0 ∨ (r ≠ 0 ∧ cmpZ r 0 = cb)) : (cmpZ r 0 = 0 ∧ True) ∨ (cmpZ r 0 = 1 ∧ cb = 1) ∨ (cmpZ r 0 = -1 ∧ cb = -1) := by
  rcases h with h | ⟨h, h1⟩
  · left; subst h; exact ⟨rfl, trivial⟩
  · right
    rcases Int.lt_or_le r 0 with h2 | h2
    · right; rw [← h1]; unfold cmpZ; rw [if_pos h2]; exact ⟨rfl, rfl⟩
    · left; rw [← h1]; unfold cmpZ; rw [if_neg (by omega), if_pos (by omega)]; exact ⟨rfl, rfl⟩
set_option maxRecDepth 100000 in
set_option maxHeartbeats 16000000 in
theorem ring_main (x y z : Value) (a b c0 : Int) (w : World) (hz : IntIs w w.heap.size x a) (hz' : IntIs w w.heap.size y b) (hz3 : IntIs w w.heap.size z c0) (h0 : blen a.natAbs ≤ 28) (h1 : blen b.natAbs ≤ 28) (h2 : blen c0.natAbs ≤ 28) (hb0 : b ≠ 0) (ht : Tens w) :
    Calls Tryd.prog 10 #[x, y, z] w fun e w' => e = .returned (.bool true) ∧ Below w.heap.size w w' := by
  have hx := hz.raw
  have hy := hz'.raw
  have hw := hz3.raw
  obtain ⟨f, hf⟩ : ∃ f, f = decide (a < 0) := ⟨_, rfl⟩
  obtain ⟨n, hn⟩ : ∃ n, n = blen a.natAbs := ⟨_, rfl⟩
  obtain ⟨f', hf'⟩ : ∃ f, f = decide (b < 0) := ⟨_, rfl⟩
  obtain ⟨n', hn'⟩ : ∃ n, n = blen b.natAbs := ⟨_, rfl⟩
  obtain ⟨f3, hf3⟩ : ∃ f, f = decide (c0 < 0) := ⟨_, rfl⟩
  obtain ⟨n3, hn3⟩ : ∃ n, n = blen c0.natAbs := ⟨_, rfl⟩
  rw [← hf, ← hn] at hx
  rw [← hf', ← hn'] at hy
  rw [← hf3, ← hn3] at hw
  have HZA := Lib.hid hz
  have HZB := Lib.hid hz'
  have HZC := Lib.hid hz3
  have H0 := Lib.hid (show validB f n a.natAbs = true by rw [hf, hn]; exact valid_of (by omega))
  have H1 := Lib.hid (show validB f' n' b.natAbs = true by rw [hf', hn']; exact valid_of (by omega))
  have H2 := Lib.hid (show validB f3 n3 c0.natAbs = true by rw [hf3, hn3]; exact valid_of (by omega))
  have g0 : decide ((28 : Int) < (n : Int)) = false := by simp; omega
  have g1 : decide ((28 : Int) < (n' : Int)) = false := by simp; omega
  have g2 : decide ((28 : Int) < (n3 : Int)) = false := by simp; omega
  have bX : blen (a + b).natAbs ≤ 29 := blenz_add h0 h1
  have bP : blen (a * b).natAbs ≤ 56 := blenz_mul (by omega)
  have bS : blen (c0 * (a + b)).natAbs ≤ 57 := blenz_mul (by omega)
  have bT : blen (c0 * a).natAbs ≤ 56 := blenz_mul (by omega)
  have bU : blen (c0 * b).natAbs ≤ 56 := blenz_mul (by omega)
  have HADD1 := Lib.hid (fun x y w hx hy => add_to (a := a) (b := b) rfl (by omega) (by omega) (by omega) x y w hx hy)
  have HADD2 := Lib.hid (fun x y w hx hy => add_to (a := b) (b := a) (Int.add_comm b a) (by omega) (by omega) (by omega) x y w hx hy)
  have HSUB := Lib.hid (fun x y w hx hy => sub_to (a := a + b) (b := b) (c := a) (by omega) (by omega) (by omega) (by omega) x y w hx hy)
  have HMUL1 := Lib.hid (fun x y w hx hy => mul_to (a := a) (b := b) rfl (by omega) (by omega) (by omega) x y w hx hy)
  have HMUL2 := Lib.hid (fun x y w hx hy => mul_to (a := b) (b := a) (Int.mul_comm b a) (by omega) (by omega) (by omega) x y w hx hy)
  have HMUL3 := Lib.hid (fun x y w hx hy => mul_to (a := c0) (b := a + b) rfl (by omega) (by omega) (by omega) x y w hx hy)
  have HMUL4 := Lib.hid (fun x y w hx hy => mul_to (a := c0) (b := a) rfl (by omega) (by omega) (by omega) x y w hx hy)
  have HMUL5 := Lib.hid (fun x y w hx hy => mul_to (a := c0) (b := b) rfl (by omega) (by omega) (by omega) x y w hx hy)
  have HADD3 := Lib.hid (fun x y w hx hy => add_to (a := c0 * a) (b := c0 * b) (c := c0 * (a + b)) (Int.mul_add c0 a b).symm (by omega) (by omega) (by omega) x y w hx hy)
  have HSGB := Lib.hid (fun x w hx => sign_num x b w hx (by omega))
  have bN : 0 < b.natAbs := by omega
  have hG : 0 < ((Nat.gcd a.natAbs b.natAbs : Nat) : Int) := by have := Nat.gcd_pos_of_pos_right a.natAbs bN; omega
  obtain ⟨sm1, sm2⟩ := dm_small a b hb0
  have bQ : blen (quoZ a b).natAbs ≤ 28 := Nat.le_trans (blen_up sm1) h0
  have bR : blen (remZ a b).natAbs ≤ 28 := Nat.le_trans (blen_up sm2) h1
  have bM : blen (quoZ a b * b).natAbs ≤ 56 := blenz_mul (by omega)
  have bG : blen ((Nat.gcd a.natAbs b.natAbs : Nat) : Int).natAbs ≤ 28 := Nat.le_trans (blen_up (Nat.gcd_le_right a.natAbs bN)) h1
  have HDM := Lib.hid (fun x y w hx hy => dm_to (a := a) (b := b) (by omega) (by omega) hb0 x y w hx hy)
  have HMUL6 := Lib.hid (fun x y w hx hy => mul_to (a := quoZ a b) (b := b) rfl (by omega) (by omega) (by omega) x y w hx hy)
  have HADD4 := Lib.hid (fun x y w hx hy => add_to (a := quoZ a b * b) (b := remZ a b) (dm_id a b hb0) (by omega) (by omega) (by omega) x y w hx hy)
  have HGCD := Lib.hid (fun x y w hx hy => gcd_int x y a b w hx hy (by omega) (by omega))
  have HD1 := Lib.hid (fun x y w hx hy => dm_to (a := a) (b := ((Nat.gcd a.natAbs b.natAbs : Nat) : Int)) (by omega) (by omega) (by omega) x y w hx hy)
  have HD2 := Lib.hid (fun x y w hx hy => dm_to (a := b) (b := ((Nat.gcd a.natAbs b.natAbs : Nat) : Int)) (by omega) (by omega) (by omega) x y w hx hy)
  rw [dm_whole hG (by simpa using Nat.gcd_dvd_left a.natAbs b.natAbs)] at HD1
  rw [dm_whole hG (by simpa using Nat.gcd_dvd_right a.natAbs b.natAbs)] at HD2
  have HSGR := Lib.hid (fun x w hx => sign_num x (remZ a b) w hx (by omega))
  have HSG0 := Lib.hid (fun x w hx => sign_num x 0 w hx (by simp [blen_zero]))
  rw [show cmpZ 0 0 = 0 from rfl] at HSG0
  have hsb : (cmpZ b 0 == 0) = false := by unfold cmpZ; split <;> (try split) <;> simp <;> omega
  have hsg := dm_sign a b hb0
  have HSR := Lib.hid hsg
  clear hb0 bN hG sm1 sm2 bQ bR bM bG hsg
  generalize quoZ a b * b = zm at *
  generalize quoZ a b = zq at *
  generalize remZ a b = zr at *
  generalize ((Nat.gcd a.natAbs b.natAbs : Nat) : Int) = zg at *
  generalize quoZ a zg = zq1 at *
  generalize quoZ b zg = zq2 at *
  clear hf hf' hf3 hn hn' hn3 h0 h1 h2 bX bP bS bT bU hz hz' hz3
  generalize c0 * (a + b) = zs at *
  generalize a + b = zx at *
  generalize a * b = zp at *
  generalize c0 * a = zt at *
  generalize c0 * b = zu at *
  generalize hcb : cmpZ b 0 = cb at *
  have HCB := Lib.hid hcb
  clear hcb
  have hz := hw
  clear hw
  obtain ⟨A, c, rfl, hx⟩ := hx.look
  obtain ⟨A', c', rfl, hy⟩ := hy.look
  obtain ⟨A3, c3, rfl, hz⟩ := hz.look
  obtain ⟨va, vb, vc, hb⟩ := three_raw hx hy hz
  have RA := Lib.hid va
  have RB := Lib.hid vb
  have RC := Lib.hid vc
  have HB := Lib.hid hb
  have kRA0 := va.cells.1
  have kRA1 := va.cells.2
  have kRB0 := vb.cells.1
  have kRB1 := vb.cells.2
  have kRC0 := vc.cells.1
  have kRC1 := vc.cells.2
  have HT := Lib.hid ht
  clear hx hy hz va vb vc hb ht
  go_enter Tryd.func10, Tryd.ntmps10
  go_wp2_with (fail)
  generalize hW : ((w.alloc (.cells #[.bool f, .slice A n c] 24)).alloc (.cells #[.bool f', .slice A' n' c'] 24)).alloc (.cells #[.bool f3, .slice A3 n3 c3] 24) = W at *
  clear hW
  have VA := Lib.hid (show IntVar W w.heap.size f A n c a from ⟨RA.out.1, HZA.out.step HB.out⟩)
  have VB := Lib.hid (show IntVar W (w.heap.size + 1) f' A' n' c' b from ⟨RB.out.1, HZB.out.step HB.out⟩)
  have VC := Lib.hid (show IntVar W (w.heap.size + 2) f3 A3 n3 c3 c0 from ⟨RC.out.1, HZC.out.step HB.out⟩)
  clear HZA HZB HZC
  refine (rvalid_is _ _ RA.out.2).mono ?_
  rw [H0.out]
  rintro e w_1 ⟨rfl, qq⟩
  clear kRA0 kRA1 kRB0 kRB1 kRC0 kRC1
  have HB := Lib.hid (bstep HB.out qq)
  have RA := Lib.hid (RA.out.step qq)
  have RB := Lib.hid (RB.out.step qq)
  have RC := Lib.hid (RC.out.step qq)
  have VA := Lib.hid (VA.out.step qq)
  have VB := Lib.hid (VB.out.step qq)
  have VC := Lib.hid (VC.out.step qq)
  clear qq
  have kRA0 := RA.out.cells.1
  have kRA1 := RA.out.cells.2
  have kRB0 := RB.out.cells.1
  have kRB1 := RB.out.cells.2
  have kRC0 := RC.out.cells.1
  have kRC1 := RC.out.cells.2
  go_wp2_with (fail)
  refine (rvalid_is _ _ RB.out.2).mono ?_
  rw [H1.out]
  rintro e w_2 ⟨rfl, qq⟩
  clear kRA0 kRA1 kRB0 kRB1 kRC0 kRC1
  have HB := Lib.hid (bstep HB.out qq)
  have RA := Lib.hid (RA.out.step qq)
  have RB := Lib.hid (RB.out.step qq)
  have RC := Lib.hid (RC.out.step qq)
  have VA := Lib.hid (VA.out.step qq)
  have VB := Lib.hid (VB.out.step qq)
  have VC := Lib.hid (VC.out.step qq)
  clear qq
  have kRA0 := RA.out.cells.1
  have kRA1 := RA.out.cells.2
  have kRB0 := RB.out.cells.1
  have kRB1 := RB.out.cells.2
  have kRC0 := RC.out.cells.1
  have kRC1 := RC.out.cells.2
  go_wp2_with (fail)
  refine (rvalid_is _ _ RC.out.2).mono ?_
  rw [H2.out]
  rintro e w_3 ⟨rfl, qq⟩
  clear kRA0 kRA1 kRB0 kRB1 kRC0 kRC1
  have HB := Lib.hid (bstep HB.out qq)
  have RA := Lib.hid (RA.out.step qq)
  have RB := Lib.hid (RB.out.step qq)
  have RC := Lib.hid (RC.out.step qq)
  have VA := Lib.hid (VA.out.step qq)
  have VB := Lib.hid (VB.out.step qq)
  have VC := Lib.hid (VC.out.step qq)
  clear qq
  have kVA0 := VA.out.cells.1
  have kVA1 := VA.out.cells.2
  have kVB0 := VB.out.cells.1
  have kVB1 := VB.out.cells.2
  go_wp2_with (fail)
  clear RA RB RC H0 H1 H2 g0 g1 g2
  refine (HADD1.out _ _ _ VA.out.2 VB.out.2).mono ?_
  rintro e w_4 ⟨⟨yy, rfl, j1⟩, qq⟩
  obtain ⟨fVX, AVX, nVX, cVX, rfl, j1, -, -⟩ := j1.look
  have VX := Lib.hid (IntVar.new j1)
  have qa := bstep qq (below_alloc w_4 (.cells #[.bool fVX, .slice AVX nVX cVX] 24))
  clear kVA0 kVA1 kVB0 kVB1
  have HB := Lib.hid (bstep HB.out qa)
  have VA := Lib.hid (VA.out.step qa)
  have VB := Lib.hid (VB.out.step qa)
  have VC := Lib.hid (VC.out.step qa)
  clear qq qa j1
  have kVA0 := VA.out.cells.1
  have kVA1 := VA.out.cells.2
  have kVB0 := VB.out.cells.1
  have kVB1 := VB.out.cells.2
  go_wp2_with (fail)
  generalize hW : (w_4.alloc (.cells #[.bool fVX, .slice AVX nVX cVX] 24)) = W_5 at *
  clear hW
  generalize w_4.heap.size = b_6 at *
  refine (HADD2.out _ _ _ VB.out.2 VA.out.2).mono ?_
  rintro e w_7 ⟨⟨yy, rfl, j1⟩, qq⟩
  obtain ⟨fVY, AVY, nVY, cVY, rfl, j1, -, -⟩ := j1.look
  have VY := Lib.hid (IntVar.new j1)
  have qa := bstep qq (below_alloc w_7 (.cells #[.bool fVY, .slice AVY nVY cVY] 24))
  clear kVA0 kVA1 kVB0 kVB1
  have HB := Lib.hid (bstep HB.out qa)
  have VA := Lib.hid (VA.out.step qa)
  have VB := Lib.hid (VB.out.step qa)
  have VC := Lib.hid (VC.out.step qa)
  have VX := Lib.hid (VX.out.step qa)
  clear qq qa j1
  have kVX0 := VX.out.cells.1
  have kVX1 := VX.out.cells.2
  have kVB0 := VB.out.cells.1
  have kVB1 := VB.out.cells.2
  go_wp2_with (fail)
  generalize hW : (w_7.alloc (.cells #[.bool fVY, .slice AVY nVY cVY] 24)) = W_8 at *
  clear hW
  generalize w_7.heap.size = b_9 at *
  refine (HSUB.out _ _ _ VX.out.2 VB.out.2).mono ?_
  rintro e w_10 ⟨⟨yy, rfl, j1⟩, qq⟩
  obtain ⟨fVZ, AVZ, nVZ, cVZ, rfl, j1, -, -⟩ := j1.look
  have VZ := Lib.hid (IntVar.new j1)
  have qa := bstep qq (below_alloc w_10 (.cells #[.bool fVZ, .slice AVZ nVZ cVZ] 24))
  clear kVX0 kVX1 kVB0 kVB1
  have HB := Lib.hid (bstep HB.out qa)
  have VA := Lib.hid (VA.out.step qa)
  have VB := Lib.hid (VB.out.step qa)
  have VC := Lib.hid (VC.out.step qa)
  have VX := Lib.hid (VX.out.step qa)
  have VY := Lib.hid (VY.out.step qa)
  clear qq qa j1
  have kVA0 := VA.out.cells.1
  have kVA1 := VA.out.cells.2
  have kVB0 := VB.out.cells.1
  have kVB1 := VB.out.cells.2
  go_wp2_with (fail)
  generalize hW : (w_10.alloc (.cells #[.bool fVZ, .slice AVZ nVZ cVZ] 24)) = W_11 at *
  clear hW
  generalize w_10.heap.size = b_12 at *
  refine (HMUL1.out _ _ _ VA.out.2 VB.out.2).mono ?_
  rintro e w_13 ⟨⟨yy, rfl, j1⟩, qq⟩
  obtain ⟨fVP, AVP, nVP, cVP, rfl, j1, -, -⟩ := j1.look
  have VP := Lib.hid (IntVar.new j1)
  have qa := bstep qq (below_alloc w_13 (.cells #[.bool fVP, .slice AVP nVP cVP] 24))
  clear kVA0 kVA1 kVB0 kVB1
  have HB := Lib.hid (bstep HB.out qa)
  have VA := Lib.hid (VA.out.step qa)
  have VB := Lib.hid (VB.out.step qa)
  have VC := Lib.hid (VC.out.step qa)
  have VX := Lib.hid (VX.out.step qa)
  have VY := Lib.hid (VY.out.step qa)
  have VZ := Lib.hid (VZ.out.step qa)
  clear qq qa j1
  have kVA0 := VA.out.cells.1
  have kVA1 := VA.out.cells.2
  have kVB0 := VB.out.cells.1
  have kVB1 := VB.out.cells.2
  go_wp2_with (fail)
  generalize hW : (w_13.alloc (.cells #[.bool fVP, .slice AVP nVP cVP] 24)) = W_14 at *
  clear hW
  generalize w_13.heap.size = b_15 at *
  refine (HMUL2.out _ _ _ VB.out.2 VA.out.2).mono ?_
  rintro e w_16 ⟨⟨yy, rfl, j1⟩, qq⟩
  obtain ⟨fVQ, AVQ, nVQ, cVQ, rfl, j1, -, -⟩ := j1.look
  have VQ := Lib.hid (IntVar.new j1)
  have qa := bstep qq (below_alloc w_16 (.cells #[.bool fVQ, .slice AVQ nVQ cVQ] 24))
  clear kVA0 kVA1 kVB0 kVB1
  have HB := Lib.hid (bstep HB.out qa)
  have VA := Lib.hid (VA.out.step qa)
  have VB := Lib.hid (VB.out.step qa)
  have VC := Lib.hid (VC.out.step qa)
  have VX := Lib.hid (VX.out.step qa)
  have VY := Lib.hid (VY.out.step qa)
  have VZ := Lib.hid (VZ.out.step qa)
  have VP := Lib.hid (VP.out.step qa)
  clear qq qa j1
  have kVX0 := VX.out.cells.1
  have kVX1 := VX.out.cells.2
  have kVY0 := VY.out.cells.1
  have kVY1 := VY.out.cells.2
  go_wp2_with (fail)
  generalize hW : (w_16.alloc (.cells #[.bool fVQ, .slice AVQ nVQ cVQ] 24)) = W_17 at *
  clear hW
  generalize w_16.heap.size = b_18 at *
  refine (same_int _ _ _ _ _ VX.out.2 VY.out.2).mono ?_
  rw [decide_eq_true rfl]
  rintro e w_19 ⟨rfl, qq⟩
  clear kVX0 kVX1 kVY0 kVY1
  have HB := Lib.hid (bstep HB.out qq)
  have VA := Lib.hid (VA.out.step qq)
  have VB := Lib.hid (VB.out.step qq)
  have VC := Lib.hid (VC.out.step qq)
  have VX := Lib.hid (VX.out.step qq)
  have VY := Lib.hid (VY.out.step qq)
  have VZ := Lib.hid (VZ.out.step qq)
  have VP := Lib.hid (VP.out.step qq)
  have VQ := Lib.hid (VQ.out.step qq)
  clear qq
  have kVZ0 := VZ.out.cells.1
  have kVZ1 := VZ.out.cells.2
  have kVA0 := VA.out.cells.1
  have kVA1 := VA.out.cells.2
  go_wp2_with (fail)
  refine (same_int _ _ _ _ _ VZ.out.2 VA.out.2).mono ?_
  rw [decide_eq_true rfl]
  rintro e w_20 ⟨rfl, qq⟩
  clear kVZ0 kVZ1 kVA0 kVA1
  have HB := Lib.hid (bstep HB.out qq)
  have VA := Lib.hid (VA.out.step qq)
  have VB := Lib.hid (VB.out.step qq)
  have VC := Lib.hid (VC.out.step qq)
  have VX := Lib.hid (VX.out.step qq)
  have VY := Lib.hid (VY.out.step qq)
  have VZ := Lib.hid (VZ.out.step qq)
  have VP := Lib.hid (VP.out.step qq)
  have VQ := Lib.hid (VQ.out.step qq)
  clear qq
  have kVP0 := VP.out.cells.1
  have kVP1 := VP.out.cells.2
  have kVQ0 := VQ.out.cells.1
  have kVQ1 := VQ.out.cells.2
  go_wp2_with (fail)
  refine (same_int _ _ _ _ _ VP.out.2 VQ.out.2).mono ?_
  rw [decide_eq_true rfl]
  rintro e w_21 ⟨rfl, qq⟩
  clear kVP0 kVP1 kVQ0 kVQ1
  have HB := Lib.hid (bstep HB.out qq)
  have VA := Lib.hid (VA.out.step qq)
  have VB := Lib.hid (VB.out.step qq)
  have VC := Lib.hid (VC.out.step qq)
  have VX := Lib.hid (VX.out.step qq)
  have VY := Lib.hid (VY.out.step qq)
  have VZ := Lib.hid (VZ.out.step qq)
  have VP := Lib.hid (VP.out.step qq)
  have VQ := Lib.hid (VQ.out.step qq)
  clear qq
  have kVC0 := VC.out.cells.1
  have kVC1 := VC.out.cells.2
  have kVX0 := VX.out.cells.1
  have kVX1 := VX.out.cells.2
  go_wp2_with (fail)
  clear VY VZ VP VQ
  refine (HMUL3.out _ _ _ VC.out.2 VX.out.2).mono ?_
  rintro e w_22 ⟨⟨yy, rfl, j1⟩, qq⟩
  obtain ⟨fVS, AVS, nVS, cVS, rfl, j1, -, -⟩ := j1.look
  have VS := Lib.hid (IntVar.new j1)
  have qa := bstep qq (below_alloc w_22 (.cells #[.bool fVS, .slice AVS nVS cVS] 24))
  clear kVC0 kVC1 kVX0 kVX1
  have HB := Lib.hid (bstep HB.out qa)
  have VA := Lib.hid (VA.out.step qa)
  have VB := Lib.hid (VB.out.step qa)
  have VC := Lib.hid (VC.out.step qa)
  have VX := Lib.hid (VX.out.step qa)
  clear qq qa j1
  have kVC0 := VC.out.cells.1
  have kVC1 := VC.out.cells.2
  have kVA0 := VA.out.cells.1
  have kVA1 := VA.out.cells.2
  go_wp2_with (fail)
  generalize hW : (w_22.alloc (.cells #[.bool fVS, .slice AVS nVS cVS] 24)) = W_23 at *
  clear hW
  generalize w_22.heap.size = b_24 at *
  refine (HMUL4.out _ _ _ VC.out.2 VA.out.2).mono ?_
  rintro e w_25 ⟨⟨yy, rfl, j1⟩, qq⟩
  obtain ⟨fVT, AVT, nVT, cVT, rfl, j1, -, -⟩ := j1.look
  have VT := Lib.hid (IntVar.new j1)
  have qa := bstep qq (below_alloc w_25 (.cells #[.bool fVT, .slice AVT nVT cVT] 24))
  clear kVC0 kVC1 kVA0 kVA1
  have HB := Lib.hid (bstep HB.out qa)
  have VA := Lib.hid (VA.out.step qa)
  have VB := Lib.hid (VB.out.step qa)
  have VC := Lib.hid (VC.out.step qa)
  have VX := Lib.hid (VX.out.step qa)
  have VS := Lib.hid (VS.out.step qa)
  clear qq qa j1
  have kVC0 := VC.out.cells.1
  have kVC1 := VC.out.cells.2
  have kVB0 := VB.out.cells.1
  have kVB1 := VB.out.cells.2
  go_wp2_with (fail)
  generalize hW : (w_25.alloc (.cells #[.bool fVT, .slice AVT nVT cVT] 24)) = W_26 at *
  clear hW
  generalize w_25.heap.size = b_27 at *
  refine (HMUL5.out _ _ _ VC.out.2 VB.out.2).mono ?_
  rintro e w_28 ⟨⟨yy, rfl, j1⟩, qq⟩
  obtain ⟨fVU, AVU, nVU, cVU, rfl, j1, -, -⟩ := j1.look
  have VU := Lib.hid (IntVar.new j1)
  have qa := bstep qq (below_alloc w_28 (.cells #[.bool fVU, .slice AVU nVU cVU] 24))
  clear kVC0 kVC1 kVB0 kVB1
  have HB := Lib.hid (bstep HB.out qa)
  have VA := Lib.hid (VA.out.step qa)
  have VB := Lib.hid (VB.out.step qa)
  have VC := Lib.hid (VC.out.step qa)
  have VX := Lib.hid (VX.out.step qa)
  have VS := Lib.hid (VS.out.step qa)
  have VT := Lib.hid (VT.out.step qa)
  clear qq qa j1
  have kVT0 := VT.out.cells.1
  have kVT1 := VT.out.cells.2
  have kVU0 := VU.out.cells.1
  have kVU1 := VU.out.cells.2
  go_wp2_with (fail)
  generalize hW : (w_28.alloc (.cells #[.bool fVU, .slice AVU nVU cVU] 24)) = W_29 at *
  clear hW
  generalize w_28.heap.size = b_30 at *
  refine (HADD3.out _ _ _ VT.out.2 VU.out.2).mono ?_
  rintro e w_31 ⟨⟨yy, rfl, j1⟩, qq⟩
  obtain ⟨fVV, AVV, nVV, cVV, rfl, j1, -, -⟩ := j1.look
  have VV := Lib.hid (IntVar.new j1)
  have qa := bstep qq (below_alloc w_31 (.cells #[.bool fVV, .slice AVV nVV cVV] 24))
  clear kVT0 kVT1 kVU0 kVU1
  have HB := Lib.hid (bstep HB.out qa)
  have VA := Lib.hid (VA.out.step qa)
  have VB := Lib.hid (VB.out.step qa)
  have VC := Lib.hid (VC.out.step qa)
  have VX := Lib.hid (VX.out.step qa)
  have VS := Lib.hid (VS.out.step qa)
  have VT := Lib.hid (VT.out.step qa)
  have VU := Lib.hid (VU.out.step qa)
  clear qq qa j1
  have kVS0 := VS.out.cells.1
  have kVS1 := VS.out.cells.2
  have kVV0 := VV.out.cells.1
  have kVV1 := VV.out.cells.2
  go_wp2_with (fail)
  generalize hW : (w_31.alloc (.cells #[.bool fVV, .slice AVV nVV cVV] 24)) = W_32 at *
  clear hW
  generalize w_31.heap.size = b_33 at *
  refine (same_int _ _ _ _ _ VS.out.2 VV.out.2).mono ?_
  rw [decide_eq_true rfl]
  rintro e w_34 ⟨rfl, qq⟩
  clear kVS0 kVS1 kVV0 kVV1
  have HB := Lib.hid (bstep HB.out qq)
  have VA := Lib.hid (VA.out.step qq)
  have VB := Lib.hid (VB.out.step qq)
  have VC := Lib.hid (VC.out.step qq)
  have VX := Lib.hid (VX.out.step qq)
  have VS := Lib.hid (VS.out.step qq)
  have VT := Lib.hid (VT.out.step qq)
  have VU := Lib.hid (VU.out.step qq)
  have VV := Lib.hid (VV.out.step qq)
  clear qq
  have kVB0 := VB.out.cells.1
  have kVB1 := VB.out.cells.2
  go_wp2_with (fail)
  clear VS VT VU VV VX VC
  refine (HSGB.out _ _ VB.out.2).mono ?_
  rintro e w_35 ⟨rfl, qq⟩
  clear kVB0 kVB1
  have HB := Lib.hid (bstep HB.out qq)
  have VA := Lib.hid (VA.out.step qq)
  have VB := Lib.hid (VB.out.step qq)
  clear qq
  have kVA0 := VA.out.cells.1
  have kVA1 := VA.out.cells.2
  have kVB0 := VB.out.cells.1
  have kVB1 := VB.out.cells.2
  go_wp2_with (fail)
  refine (HDM.out _ _ _ VA.out.2 VB.out.2).mono ?_
  rintro e w_36 ⟨⟨yy, zz, rfl, j1, j2⟩, qq⟩
  obtain ⟨fVD, AVD, nVD, cVD, rfl, j1, -, -⟩ := j1.look
  obtain ⟨fVR, AVR, nVR, cVR, rfl, j2, -, -⟩ := j2.look
  obtain ⟨VD, VR, qa⟩ := two_vars j1 j2
  have VD := Lib.hid VD
  have VR := Lib.hid VR
  have qa := bstep qq qa
  clear kVA0 kVA1 kVB0 kVB1
  have HB := Lib.hid (bstep HB.out qa)
  have VA := Lib.hid (VA.out.step qa)
  have VB := Lib.hid (VB.out.step qa)
  clear qq qa j1 j2
  have kVB0 := VB.out.cells.1
  have kVB1 := VB.out.cells.2
  have kVD0 := VD.out.cells.1
  have kVD1 := VD.out.cells.2
  go_wp2_with (fail)
  generalize hW : (w_36.alloc (.cells #[.bool fVD, .slice AVD nVD cVD] 24)).alloc (.cells #[.bool fVR, .slice AVR nVR cVR] 24) = W_37 at *
  clear hW
  generalize w_36.heap.size = bVD at *
  refine (HMUL6.out _ _ _ VD.out.2 VB.out.2).mono ?_
  rintro e w_38 ⟨⟨yy, rfl, j1⟩, qq⟩
  obtain ⟨fVM, AVM, nVM, cVM, rfl, j1, -, -⟩ := j1.look
  have VM := Lib.hid (IntVar.new j1)
  have qa := bstep qq (below_alloc w_38 (.cells #[.bool fVM, .slice AVM nVM cVM] 24))
  clear kVB0 kVB1 kVD0 kVD1
  have HB := Lib.hid (bstep HB.out qa)
  have VA := Lib.hid (VA.out.step qa)
  have VB := Lib.hid (VB.out.step qa)
  have VD := Lib.hid (VD.out.step qa)
  have VR := Lib.hid (VR.out.step qa)
  clear qq qa j1
  have kVM0 := VM.out.cells.1
  have kVM1 := VM.out.cells.2
  have kVR0 := VR.out.cells.1
  have kVR1 := VR.out.cells.2
  go_wp2_with (fail)
  generalize hW : (w_38.alloc (.cells #[.bool fVM, .slice AVM nVM cVM] 24)) = W_39 at *
  clear hW
  generalize w_38.heap.size = b_40 at *
  refine (HADD4.out _ _ _ VM.out.2 VR.out.2).mono ?_
  rintro e w_41 ⟨⟨yy, rfl, j1⟩, qq⟩
  obtain ⟨fVK, AVK, nVK, cVK, rfl, j1, -, -⟩ := j1.look
  have VK := Lib.hid (IntVar.new j1)
  have qa := bstep qq (below_alloc w_41 (.cells #[.bool fVK, .slice AVK nVK cVK] 24))
  clear kVM0 kVM1 kVR0 kVR1
  have HB := Lib.hid (bstep HB.out qa)
  have VA := Lib.hid (VA.out.step qa)
  have VB := Lib.hid (VB.out.step qa)
  have VD := Lib.hid (VD.out.step qa)
  have VR := Lib.hid (VR.out.step qa)
  have VM := Lib.hid (VM.out.step qa)
  clear qq qa j1
  have kVA0 := VA.out.cells.1
  have kVA1 := VA.out.cells.2
  have kVB0 := VB.out.cells.1
  have kVB1 := VB.out.cells.2
  go_wp2_with (fail)
  generalize hW : (w_41.alloc (.cells #[.bool fVK, .slice AVK nVK cVK] 24)) = W_42 at *
  clear hW
  generalize w_41.heap.size = b_43 at *
  refine (HGCD.out _ _ _ VA.out.2 VB.out.2).mono ?_
  rintro e w_44 ⟨⟨yy, rfl, j1⟩, qq⟩
  obtain ⟨fVG, AVG, nVG, cVG, rfl, j1, -, -⟩ := j1.look
  have VG := Lib.hid (IntVar.new j1)
  have qa := bstep qq (below_alloc w_44 (.cells #[.bool fVG, .slice AVG nVG cVG] 24))
  clear kVA0 kVA1 kVB0 kVB1
  have HB := Lib.hid (bstep HB.out qa)
  have VA := Lib.hid (VA.out.step qa)
  have VB := Lib.hid (VB.out.step qa)
  have VD := Lib.hid (VD.out.step qa)
  have VR := Lib.hid (VR.out.step qa)
  have VM := Lib.hid (VM.out.step qa)
  have VK := Lib.hid (VK.out.step qa)
  clear qq qa j1
  have kVA0 := VA.out.cells.1
  have kVA1 := VA.out.cells.2
  have kVG0 := VG.out.cells.1
  have kVG1 := VG.out.cells.2
  go_wp2_with (fail)
  generalize hW : (w_44.alloc (.cells #[.bool fVG, .slice AVG nVG cVG] 24)) = W_45 at *
  clear hW
  generalize w_44.heap.size = b_46 at *
  refine (HD1.out _ _ _ VA.out.2 VG.out.2).mono ?_
  rintro e w_47 ⟨⟨yy, zz, rfl, j1, j2⟩, qq⟩
  obtain ⟨fVE, AVE, nVE, cVE, rfl, j1, -, -⟩ := j1.look
  obtain ⟨fVF, AVF, nVF, cVF, rfl, j2, -, -⟩ := j2.look
  obtain ⟨VE, VF, qa⟩ := two_vars j1 j2
  have VE := Lib.hid VE
  have VF := Lib.hid VF
  have qa := bstep qq qa
  clear kVA0 kVA1 kVG0 kVG1
  have HB := Lib.hid (bstep HB.out qa)
  have VA := Lib.hid (VA.out.step qa)
  have VB := Lib.hid (VB.out.step qa)
  have VD := Lib.hid (VD.out.step qa)
  have VR := Lib.hid (VR.out.step qa)
  have VM := Lib.hid (VM.out.step qa)
  have VK := Lib.hid (VK.out.step qa)
  have VG := Lib.hid (VG.out.step qa)
  clear qq qa j1 j2
  have kVB0 := VB.out.cells.1
  have kVB1 := VB.out.cells.2
  have kVG0 := VG.out.cells.1
  have kVG1 := VG.out.cells.2
  go_wp2_with (fail)
  generalize hW : (w_47.alloc (.cells #[.bool fVE, .slice AVE nVE cVE] 24)).alloc (.cells #[.bool fVF, .slice AVF nVF cVF] 24) = W_48 at *
  clear hW
  generalize w_47.heap.size = bVE at *
  refine (HD2.out _ _ _ VB.out.2 VG.out.2).mono ?_
  rintro e w_49 ⟨⟨yy, zz, rfl, j1, j2⟩, qq⟩
  obtain ⟨fVH, AVH, nVH, cVH, rfl, j1, -, -⟩ := j1.look
  obtain ⟨fVI, AVI, nVI, cVI, rfl, j2, -, -⟩ := j2.look
  obtain ⟨VH, VI, qa⟩ := two_vars j1 j2
  have VH := Lib.hid VH
  have VI := Lib.hid VI
  have qa := bstep qq qa
  clear kVB0 kVB1 kVG0 kVG1
  have HB := Lib.hid (bstep HB.out qa)
  have VA := Lib.hid (VA.out.step qa)
  have VB := Lib.hid (VB.out.step qa)
  have VD := Lib.hid (VD.out.step qa)
  have VR := Lib.hid (VR.out.step qa)
  have VM := Lib.hid (VM.out.step qa)
  have VK := Lib.hid (VK.out.step qa)
  have VG := Lib.hid (VG.out.step qa)
  have VE := Lib.hid (VE.out.step qa)
  have VF := Lib.hid (VF.out.step qa)
  clear qq qa j1 j2
  have kVK0 := VK.out.cells.1
  have kVK1 := VK.out.cells.2
  have kVA0 := VA.out.cells.1
  have kVA1 := VA.out.cells.2
  go_wp2_with (fail)
  generalize hW : (w_49.alloc (.cells #[.bool fVH, .slice AVH nVH cVH] 24)).alloc (.cells #[.bool fVI, .slice AVI nVI cVI] 24) = W_50 at *
  clear hW
  generalize w_49.heap.size = bVH at *
  refine (same_int _ _ _ _ _ VK.out.2 VA.out.2).mono ?_
  rw [decide_eq_true rfl]
  rintro e w_51 ⟨rfl, qq⟩
  clear kVK0 kVK1 kVA0 kVA1
  have HB := Lib.hid (bstep HB.out qq)
  have VA := Lib.hid (VA.out.step qq)
  have VB := Lib.hid (VB.out.step qq)
  have VD := Lib.hid (VD.out.step qq)
  have VR := Lib.hid (VR.out.step qq)
  have VM := Lib.hid (VM.out.step qq)
  have VK := Lib.hid (VK.out.step qq)
  have VG := Lib.hid (VG.out.step qq)
  have VE := Lib.hid (VE.out.step qq)
  have VF := Lib.hid (VF.out.step qq)
  have VH := Lib.hid (VH.out.step qq)
  have VI := Lib.hid (VI.out.step qq)
  clear qq
  have kVF0 := VF.out.cells.1
  have kVF1 := VF.out.cells.2
  go_wp2_with (fail)
  refine (HSG0.out _ _ VF.out.2).mono ?_
  rintro e w_52 ⟨rfl, qq⟩
  clear kVF0 kVF1
  have HB := Lib.hid (bstep HB.out qq)
  have VA := Lib.hid (VA.out.step qq)
  have VB := Lib.hid (VB.out.step qq)
  have VD := Lib.hid (VD.out.step qq)
  have VR := Lib.hid (VR.out.step qq)
  have VM := Lib.hid (VM.out.step qq)
  have VK := Lib.hid (VK.out.step qq)
  have VG := Lib.hid (VG.out.step qq)
  have VE := Lib.hid (VE.out.step qq)
  have VF := Lib.hid (VF.out.step qq)
  have VH := Lib.hid (VH.out.step qq)
  have VI := Lib.hid (VI.out.step qq)
  clear qq
  have kVI0 := VI.out.cells.1
  have kVI1 := VI.out.cells.2
  go_wp2_with (fail)
  refine (HSG0.out _ _ VI.out.2).mono ?_
  rintro e w_53 ⟨rfl, qq⟩
  clear kVI0 kVI1
  have HB := Lib.hid (bstep HB.out qq)
  have VA := Lib.hid (VA.out.step qq)
  have VB := Lib.hid (VB.out.step qq)
  have VD := Lib.hid (VD.out.step qq)
  have VR := Lib.hid (VR.out.step qq)
  have VM := Lib.hid (VM.out.step qq)
  have VK := Lib.hid (VK.out.step qq)
  have VG := Lib.hid (VG.out.step qq)
  have VE := Lib.hid (VE.out.step qq)
  have VF := Lib.hid (VF.out.step qq)
  have VH := Lib.hid (VH.out.step qq)
  have VI := Lib.hid (VI.out.step qq)
  clear qq
  go_wp2_with (fail)
  have r0 := VR.out.cells.1
  have r1 := VR.out.cells.2
  have b0 := VB.out.cells.1
  have b1 := VB.out.cells.2
  have LR := VR.out.1.lt
  have LB := VB.out.1.lt
  have HKN := Lib.hid (fun W h => known_any W (HT.out.below h))
  have HB0 := HB
  rcases cmp_three HSR.out with ⟨h0, -⟩ | ⟨h0, h1⟩ | ⟨h0, h1⟩
  · rw [h0] at HSGR
    clear h0
    go_region_with ((first
        | (go_at_call 17; refine (HSGR.out _ _ ?_).mono ?_; (exact VR.out.2); rintro e w3 ⟨rfl, hq⟩; have hb := bstep (below_drew0 w_53) hq; clear hq)
        | (go_at_call 12; refine (HKN.out _ ?_).mono ?_; (exact bstep HB.out hb); rintro e w4 ⟨rfl, hq⟩; have hb2 := bstep hb hq; clear hq hb; have hb := hb2)))
    all_goals
      have HQ := Lib.hid (bstep HB.out hb)
      go_wp2_with (fail)
      go_ret
      exact ⟨rfl, HQ.out⟩
  · rw [h0] at HSGR
    rw [h1] at HSGB
    clear h0 h1
    have tok := True.intro
    go_region_held3 (fun w' => w'.cell? ⟨(bVD + 1), 0, none⟩ = some (.bool fVR) ∧ w'.cell? ⟨(bVD + 1), 1, none⟩ = some (.slice AVR nVR cVR) ∧ w'.cell? ⟨w.heap.size + 1, 0, none⟩ = some (.bool f') ∧ w'.cell? ⟨w.heap.size + 1, 1, none⟩ = some (.slice A' n' c'))
      ((refine keep4b (W4 := w_53) ?_ r0 r1 b0 b1 LR LB; (first | exact hb | exact below_drew0 _ | exact Below.refl _ _)))
      (first
        | (go_at_call_of 17 (Value.agg #[Value.bool fVR, Value.slice AVR nVR cVR]); have _t := tok; refine (HSGR.out _ _ ?_).mono ?_; (exact VR.out.2); rintro e w3 ⟨rfl, hq⟩; have hb := bstep (below_drew0 w_53) hq; clear hq _t tok)
        | (go_at_call_of 17 (Value.agg #[Value.bool fVR, Value.slice AVR nVR cVR]); refine (HSGR.out _ _ ?_).mono ?_; (exact VR.out.2.step hb); rintro e w3 ⟨rfl, hq⟩; have hb2 := bstep hb hq; clear hq hb; have hb := hb2)
        | (go_at_call_of 17 (Value.agg #[Value.bool f', Value.slice A' n' c']); refine (HSGB.out _ _ ?_).mono ?_; (exact VB.out.2.step hb); rintro e w3 ⟨rfl, hq⟩; have hb2 := bstep hb hq; clear hq hb; have hb := hb2)
        | (go_at_call 12; refine (HKN.out _ ?_).mono ?_; (exact bstep HB.out hb); rintro e w4 ⟨rfl, hq⟩; have hb2 := bstep hb hq; clear hq hb; have hb := hb2))
    all_goals
      have HQ := Lib.hid (bstep HB.out hb)
      go_wp2_with (fail)
      go_ret
      exact ⟨rfl, HQ.out⟩
  · rw [h0] at HSGR
    rw [h1] at HSGB
    clear h0 h1
    have tok := True.intro
    go_region_held3 (fun w' => w'.cell? ⟨(bVD + 1), 0, none⟩ = some (.bool fVR) ∧ w'.cell? ⟨(bVD + 1), 1, none⟩ = some (.slice AVR nVR cVR) ∧ w'.cell? ⟨w.heap.size + 1, 0, none⟩ = some (.bool f') ∧ w'.cell? ⟨w.heap.size + 1, 1, none⟩ = some (.slice A' n' c'))
      ((refine keep4b (W4 := w_53) ?_ r0 r1 b0 b1 LR LB; (first | exact hb | exact below_drew0 _ | exact Below.refl _ _)))
      (first
        | (go_at_call_of 17 (Value.agg #[Value.bool fVR, Value.slice AVR nVR cVR]); have _t := tok; refine (HSGR.out _ _ ?_).mono ?_; (exact VR.out.2); rintro e w3 ⟨rfl, hq⟩; have hb := bstep (below_drew0 w_53) hq; clear hq _t tok)
        | (go_at_call_of 17 (Value.agg #[Value.bool fVR, Value.slice AVR nVR cVR]); refine (HSGR.out _ _ ?_).mono ?_; (exact VR.out.2.step hb); rintro e w3 ⟨rfl, hq⟩; have hb2 := bstep hb hq; clear hq hb; have hb := hb2)
        | (go_at_call_of 17 (Value.agg #[Value.bool f', Value.slice A' n' c']); refine (HSGB.out _ _ ?_).mono ?_; (exact VB.out.2.step hb); rintro e w3 ⟨rfl, hq⟩; have hb2 := bstep hb hq; clear hq hb; have hb := hb2)
        | (go_at_call 12; refine (HKN.out _ ?_).mono ?_; (exact bstep HB.out hb); rintro e w4 ⟨rfl, hq⟩; have hb2 := bstep hb hq; clear hq hb; have hb := hb2))
    all_goals
      have HQ := Lib.hid (bstep HB.out hb)
      go_wp2_with (fail)
      go_ret
      exact ⟨rfl, HQ.out⟩
end Go.Proofs.YtnkklmbmodkogaaDoor

/-! Ri5 -/
namespace Go.Proofs.YtnkklmbmodkogaaDoor
open Go.RowKit

theorem RawIs.int28 {w : World} {B : Nat} {x : Value} {f : Bool} {n v : Nat} (h : RawIs w B x f n v) (hv : v < 256 ^ n) (hb : validB f n v = true) (hn : n ≤ 28) : ∃ z, IntIs w B x z ∧ blen z.natAbs ≤ 28 := by
  obtain ⟨A, c, rfl, h1, h2, h3⟩ := h
  obtain ⟨z, hz, -, e⟩ := valid_is h3 hv h1 h2 hb
  exact ⟨z, hz, by rw [e, sgn_abs]; exact Nat.le_trans (blen_le hv) hn⟩
theorem ring_any {f f' f3 : Bool} {n v n' v' n3 v3 : Nat} (x y z : Value) (w : World) (hx : RawIs w w.heap.size x f n v) (hy : RawIs w w.heap.size y f' n' v') (hz : RawIs w w.heap.size z f3 n3 v3) (hv : v < 256 ^ n) (hv' : v' < 256 ^ n') (hv3 : v3 < 256 ^ n3) (ht : Tens w) :
    Calls Tryd.prog 10 #[x, y, z] w fun e w' => e = .returned (.bool true) ∧ Below w.heap.size w w' := by
  cases g0 : decide ((28 : Int) < (n : Int))
  · cases g1 : decide ((28 : Int) < (n' : Int))
    · cases g2 : decide ((28 : Int) < (n3 : Int))
      · cases h0 : validB f n v
        · exact ring_out3 x y z w hx hy hz g0 g1 g2 h0 ht
        · cases h1 : validB f' n' v'
          · exact ring_out4 x y z w hx hy hz g0 g1 g2 h0 h1 ht
          · cases h2 : validB f3 n3 v3
            · exact ring_out5 x y z w hx hy hz g0 g1 g2 h0 h1 h2 ht
            · have l0 : n ≤ 28 := by have := of_decide_eq_false g0; omega
              have l1 : n' ≤ 28 := by have := of_decide_eq_false g1; omega
              have l2 : n3 ≤ 28 := by have := of_decide_eq_false g2; omega
              obtain ⟨a, ha, a28⟩ := hx.int28 hv h0 l0
              obtain ⟨b, hb, b28⟩ := hy.int28 hv' h1 l1
              obtain ⟨c, hc, c28⟩ := hz.int28 hv3 h2 l2
              by_cases e : b = 0
              · exact ring_zero x y z a b c w ha hb hc a28 b28 c28 e ht
              · exact ring_main x y z a b c w ha hb hc a28 b28 c28 e ht
      · exact ring_out2 x y z w hx hy hz g0 g1 g2 ht
    · exact ring_out1 x y z w hx hy hz g0 g1 ht
  · exact ring_out0 x y z w hx hy hz g0 ht
end Go.Proofs.YtnkklmbmodkogaaDoor
