/- The statement NumberSums: the walk. The reference's Divide. The statement NumberDivides: the walk. The statement NumberDivides: the walk, valid Ints. The statement NumberDivides: the walk, valid Ints. The statement NumberDivides: every pair of Ints, valid or not. -/
import Derived.Test.YtnkklmbmodkogaaDoorG11
import Derived.Test.YtnkklmbmodkogaaDoorG12
import Derived.Deep.DeepCutAuto
import Derived.Deep.RegionHeld3
import Derived.Test.YtnkklmbmodkogaaDoorG13
import Derived.Test.YtnkklmbmodkogaaDoorG8
import Derived.Test.YtnkklmbmodkogaaDoorG15
/-! Ss1 -/
namespace Go.Proofs.YtnkklmbmodkogaaDoor
open Go.RowKit

theorem limited_fit (x : Value) (z : Int) (w : World) (hx : IntIs w w.heap.size x z) : Calls Tryd.prog 30 #[x] w (RetIntE w (fitZ z) (fitE z)) := by
  have := limited_int x z w hx
  have e1 : (if blen z.natAbs ≤ 64 then z else 0) = fitZ z := by unfold fitZ; by_cases h : blen z.natAbs ≤ 64; (rw [if_pos h, if_pos (fits_blen.2 h)]); (rw [if_neg h, if_neg (fun h' => h (fits_blen.1 h'))])
  have e2 : (if blen z.natAbs ≤ 64 then (0 : Int) else 7) = fitE z := by unfold fitE; by_cases h : blen z.natAbs ≤ 64; (rw [if_pos h, if_pos (fits_blen.2 h)]); (rw [if_neg h, if_neg (fun h' => h (fits_blen.1 h'))])
  rwa [e1, e2] at this
theorem mul_fit (x y : Value) (a b : Int) (w : World) (hx : IntIs w w.heap.size x a) (hy : IntIs w w.heap.size y b) (ha : blen a.natAbs ≤ 64) (hb : blen b.natAbs ≤ 64) :
    Calls Tryd.prog 28 #[x, y] w (RetIntE w (fitZ (a * b)) (fitE (a * b))) := by
  have := mul_int x y a b w hx hy ha hb
  unfold mulZ mulE at this
  unfold fitZ fitE
  rwa [Int.natAbs_mul]
theorem sameB_self (e z : Int) : sameB e e z z = true := by simp [sameB]
theorem keep4b {W4 X : World} {g0 g1 : Nat} {t0 t1 t2 t3 : Value} (h : Below W4.heap.size W4 X) (c0 : W4.cell? ⟨g0, 0, none⟩ = some t0) (c1 : W4.cell? ⟨g0, 1, none⟩ = some t1) (c2 : W4.cell? ⟨g1, 0, none⟩ = some t2) (c3 : W4.cell? ⟨g1, 1, none⟩ = some t3) (h0 : g0 < W4.heap.size) (h1 : g1 < W4.heap.size) :
    X.cell? ⟨g0, 0, none⟩ = some t0 ∧ X.cell? ⟨g0, 1, none⟩ = some t1 ∧ X.cell? ⟨g1, 0, none⟩ = some t2 ∧ X.cell? ⟨g1, 1, none⟩ = some t3 :=
  ⟨kept_cell h c0 h0, kept_cell h c1 h0, kept_cell h c2 h1, kept_cell h c3 h1⟩
theorem var_al {X Y : World} (hq : Below (X.alloc (.cells #[.bool false, .slice none 0 0] 24)).heap.size (X.alloc (.cells #[.bool false, .slice none 0 0] 24)) Y) : Var Y X.heap.size 24 #[.bool false, .slice none 0 0] :=
  (Var.new X 24 #[.bool false, .slice none 0 0]).below hq (by simp)
theorem var_ald {X Y : World} (hq : Below (X.alloc (.cells #[.bool false, .slice none 0 0] 24)).drew.heap.size (X.alloc (.cells #[.bool false, .slice none 0 0] 24)).drew Y) : Var Y X.heap.size 24 #[.bool false, .slice none 0 0] :=
  (show Var (X.alloc (.cells #[.bool false, .slice none 0 0] 24)).drew X.heap.size 24 #[.bool false, .slice none 0 0] from Var.new X 24 #[.bool false, .slice none 0 0]).below hq (by simp)
theorem intVar_set {w : World} {b : Nat} {g : Bool} {D : Option Addr} {m d : Nat} {z' : Int} (h : Var w b 24 #[.bool false, .slice none 0 0]) (hi : IntIs w w.heap.size (.agg #[.bool g, .slice D m d]) z') :
    IntVar ((w.setCell ⟨b, 0, none⟩ (.bool g)).setCell ⟨b, 1, none⟩ (.slice D m d)) b g D m d z' := by
  refine ⟨?_, put_int hi h⟩
  have := (h.set_ 0 (.bool g)).set_ 1 (.slice D m d)
  simpa using this
theorem below_set2 {B : Nat} {v w : World} {b : Nat} {u u' : Value} (h : Below B v w) (hb : B ≤ b) : Below B v ((w.setCell ⟨b, 0, none⟩ u).setCell ⟨b, 1, none⟩ u') := (h.setCell hb _).setCell hb _
/-- A variable that holds a value of type Int, valid or not. -/
def RawVar (w : World) (b : Nat) (f : Bool) (A : Option Addr) (n c v : Nat) : Prop := Var w b 24 #[.bool f, .slice A n c] ∧ RawIs w w.heap.size (.agg #[.bool f, .slice A n c]) f n v
theorem RawVar.step {w w' : World} {b : Nat} {f : Bool} {A : Option Addr} {n c v : Nat} (h : RawVar w b f A n c v) (hb : Below w.heap.size w w') : RawVar w' b f A n c v := ⟨h.1.below hb h.1.lt, h.2.step hb⟩
theorem RawVar.cells {w : World} {b : Nat} {f : Bool} {A : Option Addr} {n c v : Nat} (h : RawVar w b f A n c v) : w.cell? ⟨b, 0, none⟩ = some (.bool f) ∧ w.cell? ⟨b, 1, none⟩ = some (.slice A n c) :=
  ⟨by have := h.1.cell 0; simpa using this, by have := h.1.cell 1; simpa using this⟩
/-- The two arguments' variables, and the block of their copies. -/
theorem two_raw {w : World} {f f' : Bool} {A A' : Option Addr} {n c v n' c' v' : Nat} (h : RawIs w w.heap.size (.agg #[.bool f, .slice A n c]) f n v) (h' : RawIs w w.heap.size (.agg #[.bool f', .slice A' n' c']) f' n' v') :
    RawVar ((w.alloc (.cells #[.bool f, .slice A n c] 24)).alloc (.cells #[.bool f', .slice A' n' c'] 24)) w.heap.size f A n c v ∧ RawVar ((w.alloc (.cells #[.bool f, .slice A n c] 24)).alloc (.cells #[.bool f', .slice A' n' c'] 24)) (w.heap.size + 1) f' A' n' c' v' ∧
    Below w.heap.size w ((w.alloc (.cells #[.bool f, .slice A n c] 24)).alloc (.cells #[.bool f', .slice A' n' c'] 24)) := by
  obtain ⟨v0, v1, hb, -⟩ := boxes2 w 24 24 #[.bool f, .slice A n c] #[.bool f', .slice A' n' c']
  exact ⟨⟨v0, h.step hb⟩, ⟨v1, h'.step hb⟩, hb⟩
theorem big4 (w : World) (f f' : Bool) (A A' : Option Addr) (n c n' c' : Nat) :
    (w.alloc (.cells #[.bool f, .slice A n c, .bool f', .slice A' n' c'] 24)).cell? ⟨w.heap.size, 1, none⟩ = some (.slice A n c) ∧ (w.alloc (.cells #[.bool f, .slice A n c, .bool f', .slice A' n' c'] 24)).cell? ⟨w.heap.size, 3, none⟩ = some (.slice A' n' c') := by
  have h := Var.new w 24 #[.bool f, .slice A n c, .bool f', .slice A' n' c']
  exact ⟨(h.cell 1).trans rfl, (h.cell 3).trans rfl⟩

set_option maxRecDepth 100000 in
set_option maxHeartbeats 8000000 in
theorem sums_big {f f' : Bool} {n v n' v' : Nat} (x y : Value) (w : World) (hx : RawIs w w.heap.size x f n v) (hy : RawIs w w.heap.size y f' n' v') (h : 80 < n ∨ 80 < n') (ht : Tens w) :
    Calls Tryd.prog 5 #[x, y] w fun e w' => e = .returned (.bool true) ∧ Below w.heap.size w w' := by
  obtain ⟨A, c, rfl, hx⟩ := hx.look
  obtain ⟨A', c', rfl, hy⟩ := hy.look
  obtain ⟨va, vb, hb⟩ := two_raw hx hy
  have hq := below_alloc ((w.alloc (.cells #[.bool f, .slice A n c] 24)).alloc (.cells #[.bool f', .slice A' n' c'] 24)) (.cells #[.bool f, .slice A n c, .bool f', .slice A' n' c'] 24)
  have RA := Lib.hid (va.step hq)
  have RB := Lib.hid (vb.step hq)
  have HB := Lib.hid (bstep hb hq)
  have k0 := va.cells.1
  have k1 := va.cells.2
  have k2 := vb.cells.1
  have k3 := vb.cells.2
  have h4 := big4 ((w.alloc (.cells #[.bool f, .slice A n c] 24)).alloc (.cells #[.bool f', .slice A' n' c'] 24)) f f' A A' n c n' c'
  have HG := big_two _ A A' n c n' c' _ h4.1 h4.2
  rw [show (decide (80 < n) || decide (80 < n')) = true from by rcases h with h | h <;> simp [h]] at HG
  have HG := Lib.hid HG
  have HT := Lib.hid ht
  clear hx hy va vb hb hq h4 ht
  go_enter Tryd.func5, Tryd.ntmps5
  go_wp2_with (fail)
  generalize hW : ((w.alloc (.cells #[.bool f, .slice A n c] 24)).alloc (.cells #[.bool f', .slice A' n' c'] 24)).alloc (.cells #[.bool f, .slice A n c, .bool f', .slice A' n' c'] 24) = W at *
  clear hW k0 k1 k2 k3
  have HG := HG.out
  simp only [show ((w.alloc (.cells #[.bool f, .slice A n c] 24)).alloc (.cells #[.bool f', .slice A' n' c'] 24)).heap.size = w.heap.size + 1 + 1 from by simp] at HG
  refine HG.mono ?_
  rintro e w' ⟨rfl, rfl⟩
  clear HG
  clear h
  go_wp2_with (fail)
  refine (known_any _ (HT.out.below HB.out)).mono ?_
  rintro e wk ⟨rfl, qk⟩
  have HQ := Lib.hid (bstep HB.out qk)
  clear qk
  go_wp2_with (fail)
  go_ret
  exact ⟨rfl, HQ.out⟩
set_option maxRecDepth 100000 in
set_option maxHeartbeats 8000000 in
theorem sums_bad1 {f f' : Bool} {n v n' v' : Nat} (x y : Value) (w : World) (hx : RawIs w w.heap.size x f n v) (hy : RawIs w w.heap.size y f' n' v') (h0 : validB f n v = false) (h : n ≤ 80) (h' : n' ≤ 80) (ht : Tens w) :
    Calls Tryd.prog 5 #[x, y] w fun e w' => e = .returned (.bool true) ∧ Below w.heap.size w w' := by
  have H0 := Lib.hid h0
  clear h0
  obtain ⟨A, c, rfl, hx⟩ := hx.look
  obtain ⟨A', c', rfl, hy⟩ := hy.look
  obtain ⟨va, vb, hb⟩ := two_raw hx hy
  have hq := below_alloc ((w.alloc (.cells #[.bool f, .slice A n c] 24)).alloc (.cells #[.bool f', .slice A' n' c'] 24)) (.cells #[.bool f, .slice A n c, .bool f', .slice A' n' c'] 24)
  have RA := Lib.hid (va.step hq)
  have RB := Lib.hid (vb.step hq)
  have HB := Lib.hid (bstep hb hq)
  have k0 := va.cells.1
  have k1 := va.cells.2
  have k2 := vb.cells.1
  have k3 := vb.cells.2
  have h4 := big4 ((w.alloc (.cells #[.bool f, .slice A n c] 24)).alloc (.cells #[.bool f', .slice A' n' c'] 24)) f f' A A' n c n' c'
  have HG := big_two _ A A' n c n' c' _ h4.1 h4.2
  rw [show (decide (80 < n) || decide (80 < n')) = false from by rw [decide_eq_false (by omega), decide_eq_false (by omega)]; rfl] at HG
  have HG := Lib.hid HG
  have HT := Lib.hid ht
  clear hx hy va vb hb hq h4 ht
  go_enter Tryd.func5, Tryd.ntmps5
  go_wp2_with (fail)
  generalize hW : ((w.alloc (.cells #[.bool f, .slice A n c] 24)).alloc (.cells #[.bool f', .slice A' n' c'] 24)).alloc (.cells #[.bool f, .slice A n c, .bool f', .slice A' n' c'] 24) = W at *
  clear hW k0 k1 k2 k3
  have HG := HG.out
  simp only [show ((w.alloc (.cells #[.bool f, .slice A n c] 24)).alloc (.cells #[.bool f', .slice A' n' c'] 24)).heap.size = w.heap.size + 1 + 1 from by simp] at HG
  refine HG.mono ?_
  rintro e w' ⟨rfl, rfl⟩
  clear HG
  clear h h'
  have kRA0 := RA.out.cells.1
  have kRA1 := RA.out.cells.2
  have kRB0 := RB.out.cells.1
  have kRB1 := RB.out.cells.2
  go_wp2_with (fail)
  refine (add_bad1 _ _ _ RA.out.2 H0.out RB.out.2).mono ?_
  rintro e w_1 ⟨⟨yy, rfl, j1⟩, qq⟩
  obtain ⟨fVX, AVX, nVX, cVX, rfl, j1, -, -⟩ := j1.look
  have VX := Lib.hid (IntVar.new j1)
  have qa := bstep qq (below_alloc w_1 (.cells #[.bool fVX, .slice AVX nVX cVX] 24))
  clear kRA0 kRA1 kRB0 kRB1
  have HB := Lib.hid (bstep HB.out qa)
  have RA := Lib.hid (RA.out.step qa)
  have RB := Lib.hid (RB.out.step qa)
  clear qq qa j1
  have kRA0 := RA.out.cells.1
  have kRA1 := RA.out.cells.2
  have kRB0 := RB.out.cells.1
  have kRB1 := RB.out.cells.2
  go_wp2_with (fail)
  generalize hW : (w_1.alloc (.cells #[.bool fVX, .slice AVX nVX cVX] 24)) = W_2 at *
  clear hW
  generalize w_1.heap.size = b_3 at *
  refine (sub_bad1 _ _ _ RA.out.2 H0.out RB.out.2).mono ?_
  rintro e w_4 ⟨⟨yy, rfl, j1⟩, qq⟩
  obtain ⟨fVY, AVY, nVY, cVY, rfl, j1, -, -⟩ := j1.look
  have VY := Lib.hid (IntVar.new j1)
  have qa := bstep qq (below_alloc w_4 (.cells #[.bool fVY, .slice AVY nVY cVY] 24))
  clear kRA0 kRA1 kRB0 kRB1
  have HB := Lib.hid (bstep HB.out qa)
  have RA := Lib.hid (RA.out.step qa)
  have RB := Lib.hid (RB.out.step qa)
  have VX := Lib.hid (VX.out.step qa)
  clear qq qa j1
  have kRA0 := RA.out.cells.1
  have kRA1 := RA.out.cells.2
  have kRB0 := RB.out.cells.1
  have kRB1 := RB.out.cells.2
  go_wp2_with (fail)
  generalize hW : (w_4.alloc (.cells #[.bool fVY, .slice AVY nVY cVY] 24)) = W_5 at *
  clear hW
  generalize w_4.heap.size = b_6 at *
  refine (mul_bad1 _ _ _ RA.out.2 H0.out RB.out.2).mono ?_
  rintro e w_7 ⟨⟨yy, rfl, j1⟩, qq⟩
  obtain ⟨fVZ, AVZ, nVZ, cVZ, rfl, j1, -, -⟩ := j1.look
  have VZ := Lib.hid (IntVar.new j1)
  have qa := bstep qq (below_alloc w_7 (.cells #[.bool fVZ, .slice AVZ nVZ cVZ] 24))
  clear kRA0 kRA1 kRB0 kRB1
  have HB := Lib.hid (bstep HB.out qa)
  have RA := Lib.hid (RA.out.step qa)
  have RB := Lib.hid (RB.out.step qa)
  have VX := Lib.hid (VX.out.step qa)
  have VY := Lib.hid (VY.out.step qa)
  clear qq qa j1
  have kRA0 := RA.out.cells.1
  have kRA1 := RA.out.cells.2
  have kRB0 := RB.out.cells.1
  have kRB1 := RB.out.cells.2
  go_wp2_with (fail)
  generalize hW : (w_7.alloc (.cells #[.bool fVZ, .slice AVZ nVZ cVZ] 24)) = W_8 at *
  clear hW
  generalize w_7.heap.size = b_9 at *
  refine (cmp_bad1 _ _ _ RA.out.2 H0.out RB.out.2).mono ?_
  rintro e w_10 ⟨rfl, qq⟩
  clear kRA0 kRA1 kRB0 kRB1
  have HB := Lib.hid (bstep HB.out qq)
  have RA := Lib.hid (RA.out.step qq)
  have RB := Lib.hid (RB.out.step qq)
  have VX := Lib.hid (VX.out.step qq)
  have VY := Lib.hid (VY.out.step qq)
  have VZ := Lib.hid (VZ.out.step qq)
  clear qq
  have kRA0 := RA.out.cells.1
  have kRA1 := RA.out.cells.2
  have kRB0 := RB.out.cells.1
  have kRB1 := RB.out.cells.2
  go_wp2_with (fail)
  refine (rvalid_is _ _ RA.out.2).mono ?_
  rw [H0.out]
  rintro e w_11 ⟨rfl, qq⟩
  clear kRA0 kRA1 kRB0 kRB1
  have HB := Lib.hid (bstep HB.out qq)
  have RA := Lib.hid (RA.out.step qq)
  have RB := Lib.hid (RB.out.step qq)
  have VX := Lib.hid (VX.out.step qq)
  have VY := Lib.hid (VY.out.step qq)
  have VZ := Lib.hid (VZ.out.step qq)
  clear qq
  have VN := Lib.hid (IntVar.new (intIs_zero w_11 _))
  have qa := below_alloc w_11 (.cells #[.bool false, .slice none 0 0] 24)
  have HB := Lib.hid (bstep HB.out qa)
  have RA := Lib.hid (RA.out.step qa)
  have RB := Lib.hid (RB.out.step qa)
  have VX := Lib.hid (VX.out.step qa)
  have VY := Lib.hid (VY.out.step qa)
  have VZ := Lib.hid (VZ.out.step qa)
  clear qa
  have kVX0 := VX.out.cells.1
  have kVX1 := VX.out.cells.2
  have kVY0 := VY.out.cells.1
  have kVY1 := VY.out.cells.2
  have kVZ0 := VZ.out.cells.1
  have kVZ1 := VZ.out.cells.2
  have kVN0 := VN.out.cells.1
  have kVN1 := VN.out.cells.2
  have kRA0 := RA.out.cells.1
  have kRA1 := RA.out.cells.2
  have kRB0 := RB.out.cells.1
  have kRB1 := RB.out.cells.2
  go_wp2_with (fail)
  generalize hW : (w_11.alloc (.cells #[.bool false, .slice none 0 0] 24)) = WN at *
  clear hW
  generalize w_11.heap.size = bN at *
  refine (same_law _ _ 2 2 0 0 _ VX.out.2 VN.out.2).mono ?_
  rw [sameB_self]
  rintro e w_12 ⟨rfl, qq⟩
  clear kVX0 kVX1 kVY0 kVY1 kVZ0 kVZ1 kVN0 kVN1 kRA0 kRA1 kRB0 kRB1
  have HB := Lib.hid (bstep HB.out qq)
  have RA := Lib.hid (RA.out.step qq)
  have RB := Lib.hid (RB.out.step qq)
  have VX := Lib.hid (VX.out.step qq)
  have VY := Lib.hid (VY.out.step qq)
  have VZ := Lib.hid (VZ.out.step qq)
  have VN := Lib.hid (VN.out.step qq)
  clear qq
  have kVX0 := VX.out.cells.1
  have kVX1 := VX.out.cells.2
  have kVY0 := VY.out.cells.1
  have kVY1 := VY.out.cells.2
  have kVZ0 := VZ.out.cells.1
  have kVZ1 := VZ.out.cells.2
  have kVN0 := VN.out.cells.1
  have kVN1 := VN.out.cells.2
  go_wp2_with (fail)
  refine (same_law _ _ 2 2 0 0 _ VY.out.2 VN.out.2).mono ?_
  rw [sameB_self]
  rintro e w_13 ⟨rfl, qq⟩
  clear kVX0 kVX1 kVY0 kVY1 kVZ0 kVZ1 kVN0 kVN1
  have HB := Lib.hid (bstep HB.out qq)
  have RA := Lib.hid (RA.out.step qq)
  have RB := Lib.hid (RB.out.step qq)
  have VX := Lib.hid (VX.out.step qq)
  have VY := Lib.hid (VY.out.step qq)
  have VZ := Lib.hid (VZ.out.step qq)
  have VN := Lib.hid (VN.out.step qq)
  clear qq
  have kVX0 := VX.out.cells.1
  have kVX1 := VX.out.cells.2
  have kVY0 := VY.out.cells.1
  have kVY1 := VY.out.cells.2
  have kVZ0 := VZ.out.cells.1
  have kVZ1 := VZ.out.cells.2
  have kVN0 := VN.out.cells.1
  have kVN1 := VN.out.cells.2
  go_wp2_with (fail)
  refine (same_law _ _ 2 2 0 0 _ VZ.out.2 VN.out.2).mono ?_
  rw [sameB_self]
  rintro e w_14 ⟨rfl, qq⟩
  clear kVX0 kVX1 kVY0 kVY1 kVZ0 kVZ1 kVN0 kVN1
  have HB := Lib.hid (bstep HB.out qq)
  have RA := Lib.hid (RA.out.step qq)
  have RB := Lib.hid (RB.out.step qq)
  have VX := Lib.hid (VX.out.step qq)
  have VY := Lib.hid (VY.out.step qq)
  have VZ := Lib.hid (VZ.out.step qq)
  have VN := Lib.hid (VN.out.step qq)
  clear qq
  have kVX0 := VX.out.cells.1
  have kVX1 := VX.out.cells.2
  have kVY0 := VY.out.cells.1
  have kVY1 := VY.out.cells.2
  have kVZ0 := VZ.out.cells.1
  have kVZ1 := VZ.out.cells.2
  have kVN0 := VN.out.cells.1
  have kVN1 := VN.out.cells.2
  go_wp2_with (fail)
  refine (known_any _ (HT.out.below HB.out)).mono ?_
  rintro e wk ⟨rfl, qk⟩
  have HQ := Lib.hid (bstep HB.out qk)
  clear qk
  clear kVX0 kVX1 kVY0 kVY1 kVZ0 kVZ1 kVN0 kVN1
  go_wp2_with (fail)
  go_ret
  exact ⟨rfl, HQ.out⟩
set_option maxRecDepth 100000 in
set_option maxHeartbeats 8000000 in
theorem sums_bad2 {f f' : Bool} {n v n' v' : Nat} (x y : Value) (w : World) (hx : RawIs w w.heap.size x f n v) (hy : RawIs w w.heap.size y f' n' v') (h0 : validB f n v = true) (h1 : validB f' n' v' = false) (h : n ≤ 80) (h' : n' ≤ 80) (ht : Tens w) :
    Calls Tryd.prog 5 #[x, y] w fun e w' => e = .returned (.bool true) ∧ Below w.heap.size w w' := by
  have H0 := Lib.hid h0
  have H1 := Lib.hid h1
  clear h0 h1
  obtain ⟨A, c, rfl, hx⟩ := hx.look
  obtain ⟨A', c', rfl, hy⟩ := hy.look
  obtain ⟨va, vb, hb⟩ := two_raw hx hy
  have hq := below_alloc ((w.alloc (.cells #[.bool f, .slice A n c] 24)).alloc (.cells #[.bool f', .slice A' n' c'] 24)) (.cells #[.bool f, .slice A n c, .bool f', .slice A' n' c'] 24)
  have RA := Lib.hid (va.step hq)
  have RB := Lib.hid (vb.step hq)
  have HB := Lib.hid (bstep hb hq)
  have k0 := va.cells.1
  have k1 := va.cells.2
  have k2 := vb.cells.1
  have k3 := vb.cells.2
  have h4 := big4 ((w.alloc (.cells #[.bool f, .slice A n c] 24)).alloc (.cells #[.bool f', .slice A' n' c'] 24)) f f' A A' n c n' c'
  have HG := big_two _ A A' n c n' c' _ h4.1 h4.2
  rw [show (decide (80 < n) || decide (80 < n')) = false from by rw [decide_eq_false (by omega), decide_eq_false (by omega)]; rfl] at HG
  have HG := Lib.hid HG
  have HT := Lib.hid ht
  clear hx hy va vb hb hq h4 ht
  go_enter Tryd.func5, Tryd.ntmps5
  go_wp2_with (fail)
  generalize hW : ((w.alloc (.cells #[.bool f, .slice A n c] 24)).alloc (.cells #[.bool f', .slice A' n' c'] 24)).alloc (.cells #[.bool f, .slice A n c, .bool f', .slice A' n' c'] 24) = W at *
  clear hW k0 k1 k2 k3
  have HG := HG.out
  simp only [show ((w.alloc (.cells #[.bool f, .slice A n c] 24)).alloc (.cells #[.bool f', .slice A' n' c'] 24)).heap.size = w.heap.size + 1 + 1 from by simp] at HG
  refine HG.mono ?_
  rintro e w' ⟨rfl, rfl⟩
  clear HG
  clear h h'
  have kRA0 := RA.out.cells.1
  have kRA1 := RA.out.cells.2
  have kRB0 := RB.out.cells.1
  have kRB1 := RB.out.cells.2
  go_wp2_with (fail)
  refine (add_bad2 _ _ _ RA.out.2 H0.out RB.out.2 H1.out).mono ?_
  rintro e w_1 ⟨⟨yy, rfl, j1⟩, qq⟩
  obtain ⟨fVX, AVX, nVX, cVX, rfl, j1, -, -⟩ := j1.look
  have VX := Lib.hid (IntVar.new j1)
  have qa := bstep qq (below_alloc w_1 (.cells #[.bool fVX, .slice AVX nVX cVX] 24))
  clear kRA0 kRA1 kRB0 kRB1
  have HB := Lib.hid (bstep HB.out qa)
  have RA := Lib.hid (RA.out.step qa)
  have RB := Lib.hid (RB.out.step qa)
  clear qq qa j1
  have kRA0 := RA.out.cells.1
  have kRA1 := RA.out.cells.2
  have kRB0 := RB.out.cells.1
  have kRB1 := RB.out.cells.2
  go_wp2_with (fail)
  generalize hW : (w_1.alloc (.cells #[.bool fVX, .slice AVX nVX cVX] 24)) = W_2 at *
  clear hW
  generalize w_1.heap.size = b_3 at *
  refine (sub_bad2 _ _ _ RA.out.2 H0.out RB.out.2 H1.out).mono ?_
  rintro e w_4 ⟨⟨yy, rfl, j1⟩, qq⟩
  obtain ⟨fVY, AVY, nVY, cVY, rfl, j1, -, -⟩ := j1.look
  have VY := Lib.hid (IntVar.new j1)
  have qa := bstep qq (below_alloc w_4 (.cells #[.bool fVY, .slice AVY nVY cVY] 24))
  clear kRA0 kRA1 kRB0 kRB1
  have HB := Lib.hid (bstep HB.out qa)
  have RA := Lib.hid (RA.out.step qa)
  have RB := Lib.hid (RB.out.step qa)
  have VX := Lib.hid (VX.out.step qa)
  clear qq qa j1
  have kRA0 := RA.out.cells.1
  have kRA1 := RA.out.cells.2
  have kRB0 := RB.out.cells.1
  have kRB1 := RB.out.cells.2
  go_wp2_with (fail)
  generalize hW : (w_4.alloc (.cells #[.bool fVY, .slice AVY nVY cVY] 24)) = W_5 at *
  clear hW
  generalize w_4.heap.size = b_6 at *
  refine (mul_bad2 _ _ _ RA.out.2 H0.out RB.out.2 H1.out).mono ?_
  rintro e w_7 ⟨⟨yy, rfl, j1⟩, qq⟩
  obtain ⟨fVZ, AVZ, nVZ, cVZ, rfl, j1, -, -⟩ := j1.look
  have VZ := Lib.hid (IntVar.new j1)
  have qa := bstep qq (below_alloc w_7 (.cells #[.bool fVZ, .slice AVZ nVZ cVZ] 24))
  clear kRA0 kRA1 kRB0 kRB1
  have HB := Lib.hid (bstep HB.out qa)
  have RA := Lib.hid (RA.out.step qa)
  have RB := Lib.hid (RB.out.step qa)
  have VX := Lib.hid (VX.out.step qa)
  have VY := Lib.hid (VY.out.step qa)
  clear qq qa j1
  have kRA0 := RA.out.cells.1
  have kRA1 := RA.out.cells.2
  have kRB0 := RB.out.cells.1
  have kRB1 := RB.out.cells.2
  go_wp2_with (fail)
  generalize hW : (w_7.alloc (.cells #[.bool fVZ, .slice AVZ nVZ cVZ] 24)) = W_8 at *
  clear hW
  generalize w_7.heap.size = b_9 at *
  refine (cmp_bad2 _ _ _ RA.out.2 H0.out RB.out.2 H1.out).mono ?_
  rintro e w_10 ⟨rfl, qq⟩
  clear kRA0 kRA1 kRB0 kRB1
  have HB := Lib.hid (bstep HB.out qq)
  have RA := Lib.hid (RA.out.step qq)
  have RB := Lib.hid (RB.out.step qq)
  have VX := Lib.hid (VX.out.step qq)
  have VY := Lib.hid (VY.out.step qq)
  have VZ := Lib.hid (VZ.out.step qq)
  clear qq
  have kRA0 := RA.out.cells.1
  have kRA1 := RA.out.cells.2
  have kRB0 := RB.out.cells.1
  have kRB1 := RB.out.cells.2
  go_wp2_with (fail)
  refine (rvalid_is _ _ RA.out.2).mono ?_
  rw [H0.out]
  rintro e w_11 ⟨rfl, qq⟩
  clear kRA0 kRA1 kRB0 kRB1
  have HB := Lib.hid (bstep HB.out qq)
  have RA := Lib.hid (RA.out.step qq)
  have RB := Lib.hid (RB.out.step qq)
  have VX := Lib.hid (VX.out.step qq)
  have VY := Lib.hid (VY.out.step qq)
  have VZ := Lib.hid (VZ.out.step qq)
  clear qq
  have kRA0 := RA.out.cells.1
  have kRA1 := RA.out.cells.2
  have kRB0 := RB.out.cells.1
  have kRB1 := RB.out.cells.2
  go_wp2_with (fail)
  refine (rvalid_is _ _ RB.out.2).mono ?_
  rw [H1.out]
  rintro e w_12 ⟨rfl, qq⟩
  clear kRA0 kRA1 kRB0 kRB1
  have HB := Lib.hid (bstep HB.out qq)
  have RA := Lib.hid (RA.out.step qq)
  have RB := Lib.hid (RB.out.step qq)
  have VX := Lib.hid (VX.out.step qq)
  have VY := Lib.hid (VY.out.step qq)
  have VZ := Lib.hid (VZ.out.step qq)
  clear qq
  have VN := Lib.hid (IntVar.new (intIs_zero w_12 _))
  have qa := below_alloc w_12 (.cells #[.bool false, .slice none 0 0] 24)
  have HB := Lib.hid (bstep HB.out qa)
  have RA := Lib.hid (RA.out.step qa)
  have RB := Lib.hid (RB.out.step qa)
  have VX := Lib.hid (VX.out.step qa)
  have VY := Lib.hid (VY.out.step qa)
  have VZ := Lib.hid (VZ.out.step qa)
  clear qa
  have kVX0 := VX.out.cells.1
  have kVX1 := VX.out.cells.2
  have kVY0 := VY.out.cells.1
  have kVY1 := VY.out.cells.2
  have kVZ0 := VZ.out.cells.1
  have kVZ1 := VZ.out.cells.2
  have kVN0 := VN.out.cells.1
  have kVN1 := VN.out.cells.2
  have kRA0 := RA.out.cells.1
  have kRA1 := RA.out.cells.2
  have kRB0 := RB.out.cells.1
  have kRB1 := RB.out.cells.2
  go_wp2_with (fail)
  generalize hW : (w_12.alloc (.cells #[.bool false, .slice none 0 0] 24)) = WN at *
  clear hW
  generalize w_12.heap.size = bN at *
  refine (same_law _ _ 2 2 0 0 _ VX.out.2 VN.out.2).mono ?_
  rw [sameB_self]
  rintro e w_13 ⟨rfl, qq⟩
  clear kVX0 kVX1 kVY0 kVY1 kVZ0 kVZ1 kVN0 kVN1 kRA0 kRA1 kRB0 kRB1
  have HB := Lib.hid (bstep HB.out qq)
  have RA := Lib.hid (RA.out.step qq)
  have RB := Lib.hid (RB.out.step qq)
  have VX := Lib.hid (VX.out.step qq)
  have VY := Lib.hid (VY.out.step qq)
  have VZ := Lib.hid (VZ.out.step qq)
  have VN := Lib.hid (VN.out.step qq)
  clear qq
  have kVX0 := VX.out.cells.1
  have kVX1 := VX.out.cells.2
  have kVY0 := VY.out.cells.1
  have kVY1 := VY.out.cells.2
  have kVZ0 := VZ.out.cells.1
  have kVZ1 := VZ.out.cells.2
  have kVN0 := VN.out.cells.1
  have kVN1 := VN.out.cells.2
  go_wp2_with (fail)
  refine (same_law _ _ 2 2 0 0 _ VY.out.2 VN.out.2).mono ?_
  rw [sameB_self]
  rintro e w_14 ⟨rfl, qq⟩
  clear kVX0 kVX1 kVY0 kVY1 kVZ0 kVZ1 kVN0 kVN1
  have HB := Lib.hid (bstep HB.out qq)
  have RA := Lib.hid (RA.out.step qq)
  have RB := Lib.hid (RB.out.step qq)
  have VX := Lib.hid (VX.out.step qq)
  have VY := Lib.hid (VY.out.step qq)
  have VZ := Lib.hid (VZ.out.step qq)
  have VN := Lib.hid (VN.out.step qq)
  clear qq
  have kVX0 := VX.out.cells.1
  have kVX1 := VX.out.cells.2
  have kVY0 := VY.out.cells.1
  have kVY1 := VY.out.cells.2
  have kVZ0 := VZ.out.cells.1
  have kVZ1 := VZ.out.cells.2
  have kVN0 := VN.out.cells.1
  have kVN1 := VN.out.cells.2
  go_wp2_with (fail)
  refine (same_law _ _ 2 2 0 0 _ VZ.out.2 VN.out.2).mono ?_
  rw [sameB_self]
  rintro e w_15 ⟨rfl, qq⟩
  clear kVX0 kVX1 kVY0 kVY1 kVZ0 kVZ1 kVN0 kVN1
  have HB := Lib.hid (bstep HB.out qq)
  have RA := Lib.hid (RA.out.step qq)
  have RB := Lib.hid (RB.out.step qq)
  have VX := Lib.hid (VX.out.step qq)
  have VY := Lib.hid (VY.out.step qq)
  have VZ := Lib.hid (VZ.out.step qq)
  have VN := Lib.hid (VN.out.step qq)
  clear qq
  have kVX0 := VX.out.cells.1
  have kVX1 := VX.out.cells.2
  have kVY0 := VY.out.cells.1
  have kVY1 := VY.out.cells.2
  have kVZ0 := VZ.out.cells.1
  have kVZ1 := VZ.out.cells.2
  have kVN0 := VN.out.cells.1
  have kVN1 := VN.out.cells.2
  go_wp2_with (fail)
  refine (known_any _ (HT.out.below HB.out)).mono ?_
  rintro e wk ⟨rfl, qk⟩
  have HQ := Lib.hid (bstep HB.out qk)
  clear qk
  clear kVX0 kVX1 kVY0 kVY1 kVZ0 kVZ1 kVN0 kVN1
  go_wp2_with (fail)
  go_ret
  exact ⟨rfl, HQ.out⟩
set_option maxRecDepth 100000 in
set_option maxHeartbeats 8000000 in
theorem sums_main (x y : Value) (a b : Int) (w : World) (hz : IntIs w w.heap.size x a) (hz' : IntIs w w.heap.size y b) (h0 : blen a.natAbs ≤ 64) (h1 : blen b.natAbs ≤ 64) (ht : Tens w) :
    Calls Tryd.prog 5 #[x, y] w fun e w' => e = .returned (.bool true) ∧ Below w.heap.size w w' := by
  have hx := hz.raw
  have hy := hz'.raw
  obtain ⟨f, hf⟩ : ∃ f, f = decide (a < 0) := ⟨_, rfl⟩
  obtain ⟨n, hn⟩ : ∃ n, n = blen a.natAbs := ⟨_, rfl⟩
  obtain ⟨f', hf'⟩ : ∃ f, f = decide (b < 0) := ⟨_, rfl⟩
  obtain ⟨n', hn'⟩ : ∃ n, n = blen b.natAbs := ⟨_, rfl⟩
  rw [← hf, ← hn] at hx
  rw [← hf', ← hn'] at hy
  have HZA := Lib.hid hz
  have HZB := Lib.hid hz'
  have H0 := Lib.hid h0
  have H1 := Lib.hid h1
  have HVA := Lib.hid (show validB f n a.natAbs = true by rw [hf, hn]; exact valid_of h0)
  have HVB := Lib.hid (show validB f' n' b.natAbs = true by rw [hf', hn']; exact valid_of h1)
  have hn80 : n ≤ 80 := by omega
  have hn80' : n' ≤ 80 := by omega
  clear hz hz' hf hf' hn hn' h0 h1
  obtain ⟨A, c, rfl, hx⟩ := hx.look
  obtain ⟨A', c', rfl, hy⟩ := hy.look
  obtain ⟨va, vb, hb⟩ := two_raw hx hy
  have hq := below_alloc ((w.alloc (.cells #[.bool f, .slice A n c] 24)).alloc (.cells #[.bool f', .slice A' n' c'] 24)) (.cells #[.bool f, .slice A n c, .bool f', .slice A' n' c'] 24)
  have RA := Lib.hid (va.step hq)
  have RB := Lib.hid (vb.step hq)
  have HB := Lib.hid (bstep hb hq)
  have k0 := va.cells.1
  have k1 := va.cells.2
  have k2 := vb.cells.1
  have k3 := vb.cells.2
  have h4 := big4 ((w.alloc (.cells #[.bool f, .slice A n c] 24)).alloc (.cells #[.bool f', .slice A' n' c'] 24)) f f' A A' n c n' c'
  have HG := big_two _ A A' n c n' c' _ h4.1 h4.2
  rw [show (decide (80 < n) || decide (80 < n')) = false from by rw [decide_eq_false (by omega), decide_eq_false (by omega)]; rfl] at HG
  have HG := Lib.hid HG
  have HT := Lib.hid ht
  clear hx hy va vb hb hq h4 ht
  go_enter Tryd.func5, Tryd.ntmps5
  go_wp2_with (fail)
  generalize hW : ((w.alloc (.cells #[.bool f, .slice A n c] 24)).alloc (.cells #[.bool f', .slice A' n' c'] 24)).alloc (.cells #[.bool f, .slice A n c, .bool f', .slice A' n' c'] 24) = W at *
  clear hW k0 k1 k2 k3
  have HG := HG.out
  simp only [show ((w.alloc (.cells #[.bool f, .slice A n c] 24)).alloc (.cells #[.bool f', .slice A' n' c'] 24)).heap.size = w.heap.size + 1 + 1 from by simp] at HG
  refine HG.mono ?_
  rintro e w' ⟨rfl, rfl⟩
  clear HG
  have VA := Lib.hid (show IntVar W w.heap.size f A n c a from ⟨RA.out.1, HZA.out.step HB.out⟩)
  have VB := Lib.hid (show IntVar W (w.heap.size + 1) f' A' n' c' b from ⟨RB.out.1, HZB.out.step HB.out⟩)
  clear hn80 hn80' HZA HZB
  have kVA0 := VA.out.cells.1
  have kVA1 := VA.out.cells.2
  have kVB0 := VB.out.cells.1
  have kVB1 := VB.out.cells.2
  go_wp2_with (fail)
  refine (add_int _ _ a b _ VA.out.2 VB.out.2 H0.out H1.out).mono ?_
  rintro e w_1 ⟨⟨yy, rfl, j1⟩, qq⟩
  obtain ⟨fVX, AVX, nVX, cVX, rfl, j1, -, -⟩ := j1.look
  have VX := Lib.hid (IntVar.new j1)
  have qa := bstep qq (below_alloc w_1 (.cells #[.bool fVX, .slice AVX nVX cVX] 24))
  clear kVA0 kVA1 kVB0 kVB1
  have HB := Lib.hid (bstep HB.out qa)
  have RA := Lib.hid (RA.out.step qa)
  have RB := Lib.hid (RB.out.step qa)
  have VA := Lib.hid (VA.out.step qa)
  have VB := Lib.hid (VB.out.step qa)
  clear qq qa j1
  have kVA0 := VA.out.cells.1
  have kVA1 := VA.out.cells.2
  have kVB0 := VB.out.cells.1
  have kVB1 := VB.out.cells.2
  go_wp2_with (fail)
  generalize hW : (w_1.alloc (.cells #[.bool fVX, .slice AVX nVX cVX] 24)) = W_2 at *
  clear hW
  generalize w_1.heap.size = b_3 at *
  refine (sub_int _ _ a b _ VA.out.2 VB.out.2 H0.out H1.out).mono ?_
  rintro e w_4 ⟨⟨yy, rfl, j1⟩, qq⟩
  obtain ⟨fVY, AVY, nVY, cVY, rfl, j1, -, -⟩ := j1.look
  have VY := Lib.hid (IntVar.new j1)
  have qa := bstep qq (below_alloc w_4 (.cells #[.bool fVY, .slice AVY nVY cVY] 24))
  clear kVA0 kVA1 kVB0 kVB1
  have HB := Lib.hid (bstep HB.out qa)
  have RA := Lib.hid (RA.out.step qa)
  have RB := Lib.hid (RB.out.step qa)
  have VA := Lib.hid (VA.out.step qa)
  have VB := Lib.hid (VB.out.step qa)
  have VX := Lib.hid (VX.out.step qa)
  clear qq qa j1
  have kVA0 := VA.out.cells.1
  have kVA1 := VA.out.cells.2
  have kVB0 := VB.out.cells.1
  have kVB1 := VB.out.cells.2
  go_wp2_with (fail)
  generalize hW : (w_4.alloc (.cells #[.bool fVY, .slice AVY nVY cVY] 24)) = W_5 at *
  clear hW
  generalize w_4.heap.size = b_6 at *
  refine (mul_fit _ _ a b _ VA.out.2 VB.out.2 H0.out H1.out).mono ?_
  rintro e w_7 ⟨⟨yy, rfl, j1⟩, qq⟩
  obtain ⟨fVZ, AVZ, nVZ, cVZ, rfl, j1, -, -⟩ := j1.look
  have VZ := Lib.hid (IntVar.new j1)
  have qa := bstep qq (below_alloc w_7 (.cells #[.bool fVZ, .slice AVZ nVZ cVZ] 24))
  clear kVA0 kVA1 kVB0 kVB1
  have HB := Lib.hid (bstep HB.out qa)
  have RA := Lib.hid (RA.out.step qa)
  have RB := Lib.hid (RB.out.step qa)
  have VA := Lib.hid (VA.out.step qa)
  have VB := Lib.hid (VB.out.step qa)
  have VX := Lib.hid (VX.out.step qa)
  have VY := Lib.hid (VY.out.step qa)
  clear qq qa j1
  have kVA0 := VA.out.cells.1
  have kVA1 := VA.out.cells.2
  have kVB0 := VB.out.cells.1
  have kVB1 := VB.out.cells.2
  go_wp2_with (fail)
  generalize hW : (w_7.alloc (.cells #[.bool fVZ, .slice AVZ nVZ cVZ] 24)) = W_8 at *
  clear hW
  generalize w_7.heap.size = b_9 at *
  refine (compare_num _ _ a b _ VA.out.2 VB.out.2 H0.out H1.out).mono ?_
  rintro e w_10 ⟨rfl, qq⟩
  clear kVA0 kVA1 kVB0 kVB1
  have HB := Lib.hid (bstep HB.out qq)
  have RA := Lib.hid (RA.out.step qq)
  have RB := Lib.hid (RB.out.step qq)
  have VA := Lib.hid (VA.out.step qq)
  have VB := Lib.hid (VB.out.step qq)
  have VX := Lib.hid (VX.out.step qq)
  have VY := Lib.hid (VY.out.step qq)
  have VZ := Lib.hid (VZ.out.step qq)
  clear qq
  have kVA0 := VA.out.cells.1
  have kVA1 := VA.out.cells.2
  have kVB0 := VB.out.cells.1
  have kVB1 := VB.out.cells.2
  go_wp2_with (fail)
  refine (rvalid_is _ _ RA.out.2).mono ?_
  rw [HVA.out]
  rintro e w_11 ⟨rfl, qq⟩
  clear kVA0 kVA1 kVB0 kVB1
  have HB := Lib.hid (bstep HB.out qq)
  have RA := Lib.hid (RA.out.step qq)
  have RB := Lib.hid (RB.out.step qq)
  have VA := Lib.hid (VA.out.step qq)
  have VB := Lib.hid (VB.out.step qq)
  have VX := Lib.hid (VX.out.step qq)
  have VY := Lib.hid (VY.out.step qq)
  have VZ := Lib.hid (VZ.out.step qq)
  clear qq
  have kVA0 := VA.out.cells.1
  have kVA1 := VA.out.cells.2
  have kVB0 := VB.out.cells.1
  have kVB1 := VB.out.cells.2
  go_wp2_with (fail)
  refine (rvalid_is _ _ RB.out.2).mono ?_
  rw [HVB.out]
  rintro e w_12 ⟨rfl, qq⟩
  clear kVA0 kVA1 kVB0 kVB1
  have HB := Lib.hid (bstep HB.out qq)
  have RA := Lib.hid (RA.out.step qq)
  have RB := Lib.hid (RB.out.step qq)
  have VA := Lib.hid (VA.out.step qq)
  have VB := Lib.hid (VB.out.step qq)
  have VX := Lib.hid (VX.out.step qq)
  have VY := Lib.hid (VY.out.step qq)
  have VZ := Lib.hid (VZ.out.step qq)
  clear qq
  have kVA0 := VA.out.cells.1
  have kVA1 := VA.out.cells.2
  have kVB0 := VB.out.cells.1
  have kVB1 := VB.out.cells.2
  go_wp2_with (fail)
  clear RA RB HVA HVB
  refine (sum_int _ _ a b _ VA.out.2 VB.out.2 (Nat.lt_of_le_of_lt H0.out (by omega)) (Nat.lt_of_le_of_lt H1.out (by omega))).mono ?_
  rintro e w_13 ⟨⟨yy, rfl, js⟩, qq⟩
  clear kVA0 kVA1 kVB0 kVB1
  have HB := Lib.hid (bstep HB.out qq)
  have VA := Lib.hid (VA.out.step qq)
  have VB := Lib.hid (VB.out.step qq)
  have VX := Lib.hid (VX.out.step qq)
  have VY := Lib.hid (VY.out.step qq)
  have VZ := Lib.hid (VZ.out.step qq)
  have js := Lib.hid js
  clear qq
  go_wp2_with (fail)
  refine (limited_fit _ _ _ js.out).mono ?_
  rintro e w_14 ⟨⟨yy, rfl, j1⟩, qq⟩
  obtain ⟨fVU, AVU, nVU, cVU, rfl, j1, -, -⟩ := j1.look
  have VU := Lib.hid (IntVar.new j1)
  have qa := bstep qq (below_alloc w_14 (.cells #[.bool fVU, .slice AVU nVU cVU] 24))
  have HB := Lib.hid (bstep HB.out qa)
  have VA := Lib.hid (VA.out.step qa)
  have VB := Lib.hid (VB.out.step qa)
  have VX := Lib.hid (VX.out.step qa)
  have VY := Lib.hid (VY.out.step qa)
  have VZ := Lib.hid (VZ.out.step qa)
  clear qq qa j1
  have kVA0 := VA.out.cells.1
  have kVA1 := VA.out.cells.2
  have kVB0 := VB.out.cells.1
  have kVB1 := VB.out.cells.2
  go_wp2_with (fail)
  generalize hW : (w_14.alloc (.cells #[.bool fVU, .slice AVU nVU cVU] 24)) = W_15 at *
  clear hW
  generalize w_14.heap.size = b_16 at *
  clear kVA0 kVA1 kVB0 kVB1
  have a0 := VA.out.cells.1
  have a1 := VA.out.cells.2
  have b0 := VB.out.cells.1
  have b1 := VB.out.cells.2
  have LA := VA.out.1.lt
  have LB := VB.out.1.lt
  generalize hfz : fitZ (a - b) = zd at *
  generalize hfe : fitE (a - b) = ed at *
  have HFD := Lib.hid (And.intro hfz hfe)
  clear hfz hfe
  go_cut [15, 16] (fun s15 s16 wx => ∃ g D p d q, s15 = .pointer (some ⟨q, 0, none⟩) ∧ s16 = .int .i64 ed ∧ IntVar wx q g D p d zd ∧ Below W_15.heap.size W_15 wx)
  case first =>
    have HLIM := Lib.hid (fun (x : Value) (w : World) (hx : IntIs w w.heap.size x (a + -b)) => limited_fit x (a + -b) w hx)
    rw [show a + -b = a - b from rfl, HFD.out.1, HFD.out.2] at HLIM
    go_region_held3 (fun w' => w'.cell? ⟨w.heap.size, 0, none⟩ = some (.bool f) ∧ w'.cell? ⟨w.heap.size, 1, none⟩ = some (.slice A n c) ∧ w'.cell? ⟨w.heap.size + 1, 0, none⟩ = some (.bool f') ∧ w'.cell? ⟨w.heap.size + 1, 1, none⟩ = some (.slice A' n' c'))
      ((refine keep4b (W4 := W_15) ?_ a0 a1 b0 b1 LA LB; (repeat (first | exact hb | exact below_drew0 _ | exact Below.refl _ _ | exact below_set2 hb (Nat.le_refl _) | exact below_set2 hb hl3 | exact below_set2 hb hl4 | refine bal ?_ _ | refine Below.drew ?_))))
      (first
        | (go_at_call 24; refine (negative_int _ b _ ?_ (Nat.lt_of_le_of_lt H1.out (by omega))).mono ?_; (first | exact VB.out.2 | exact VB.out.2.step (below_alloc _ _).drew); rintro e w3 ⟨⟨xn, rfl, jn⟩, hq⟩; (first | have hb := bstep (below_drew0 W_15) hq | have hb := bstep ((below_alloc W_15 _).drew) hq); have hl3 := hb.size; (first | have hz := var_ald (X := W_15) (Y := w3) hq | skip); clear hq)
        | (go_at_call 31; refine (sum_int _ _ a (-b) _ ?_ ?_ (Nat.lt_of_le_of_lt H0.out (by omega)) (by rw [Int.natAbs_neg]; exact Nat.lt_of_le_of_lt H1.out (by omega))).mono ?_; (first | exact VA.out.2.step hb | exact VA.out.2.step (bal hb _)); (first | exact jn | exact jn.step (below_alloc _ _)); rintro e w4 ⟨⟨xs, rfl, js⟩, hq⟩; (first | have hb2 := bstep hb hq | have hb2 := bstep (bal hb _) hq); have hl4 := hb2.size; (first | have hz2 := hz.below hq hz.lt | have hz2 := var_al (X := w3) (Y := w4) hq | skip); clear hq hb; have hb := hb2)
        | (go_at_call 30; refine (HLIM.out _ _ ?_).mono ?_; (first | exact js | exact js.step (below_alloc _ _)); rintro e w5 ⟨⟨xl, rfl, jl⟩, hq⟩; obtain ⟨g, D, p, d, rfl, jl, -, -⟩ := jl.look; (first | have hb3 := bstep hb hq | have hb3 := bstep (bal hb _) hq); have hl5 := hb3.size; (first | have hz3 := hz2.below hq hz2.lt | have hz3 := var_al (X := w4) (Y := w5) hq | skip); (first | (have c0 := hz3.cell 0; have c1 := hz3.cell 1; have z0 := hz3.free 0; have z1 := hz3.free 1; simp only [List.getElem?_toArray, List.getElem?_cons_succ, List.getElem?_cons_zero] at c0 c1) | skip); clear hq hb; have hb := hb3))
    all_goals
      go_wp2_with (fail)
      go_meet
      first
        | exact ⟨g, D, p, d, _, rfl, rfl, intVar_set hz3 jl, below_set2 hb (Nat.le_refl _)⟩
        | exact ⟨g, D, p, d, _, rfl, rfl, intVar_set hz3 jl, below_set2 hb hl3⟩
        | exact ⟨g, D, p, d, _, rfl, rfl, intVar_set hz3 jl, below_set2 hb hl4⟩
        | exact ⟨g, D, p, d, _, rfl, rfl, IntVar.new jl, bal hb _⟩
  case rest =>
  obtain ⟨gV, DV, pV, dV, qV, rfl, rfl, hv, qc⟩ := hcut
  have VV := Lib.hid hv
  clear a0 a1 b0 b1 LA LB hv
  have HB := Lib.hid (bstep HB.out qc)
  have VA := Lib.hid (VA.out.step qc)
  have VB := Lib.hid (VB.out.step qc)
  have VX := Lib.hid (VX.out.step qc)
  have VY := Lib.hid (VY.out.step qc)
  have VZ := Lib.hid (VZ.out.step qc)
  have VU := Lib.hid (VU.out.step qc)
  clear qc
  have kVA0 := VA.out.cells.1
  have kVA1 := VA.out.cells.2
  have kVB0 := VB.out.cells.1
  have kVB1 := VB.out.cells.2
  go_wp2_with (fail)
  refine (product_int _ _ a b _ VA.out.2 VB.out.2 (Nat.lt_of_le_of_lt H0.out (by omega)) (Nat.lt_of_le_of_lt H1.out (by omega))).mono ?_
  rintro e w_17 ⟨⟨yy, rfl, jp⟩, qq⟩
  clear kVA0 kVA1 kVB0 kVB1
  have HB := Lib.hid (bstep HB.out qq)
  have VA := Lib.hid (VA.out.step qq)
  have VB := Lib.hid (VB.out.step qq)
  have VX := Lib.hid (VX.out.step qq)
  have VY := Lib.hid (VY.out.step qq)
  have VZ := Lib.hid (VZ.out.step qq)
  have VU := Lib.hid (VU.out.step qq)
  have VV := Lib.hid (VV.out.step qq)
  have jp := Lib.hid jp
  clear qq
  go_wp2_with (fail)
  refine (limited_fit _ _ _ jp.out).mono ?_
  rintro e w_18 ⟨⟨yy, rfl, j1⟩, qq⟩
  obtain ⟨fVW, AVW, nVW, cVW, rfl, j1, -, -⟩ := j1.look
  have VW := Lib.hid (IntVar.new j1)
  have qa := bstep qq (below_alloc w_18 (.cells #[.bool fVW, .slice AVW nVW cVW] 24))
  have HB := Lib.hid (bstep HB.out qa)
  have VA := Lib.hid (VA.out.step qa)
  have VB := Lib.hid (VB.out.step qa)
  have VX := Lib.hid (VX.out.step qa)
  have VY := Lib.hid (VY.out.step qa)
  have VZ := Lib.hid (VZ.out.step qa)
  have VU := Lib.hid (VU.out.step qa)
  have VV := Lib.hid (VV.out.step qa)
  clear qq qa j1
  have kVA0 := VA.out.cells.1
  have kVA1 := VA.out.cells.2
  have kVB0 := VB.out.cells.1
  have kVB1 := VB.out.cells.2
  have kVX0 := VX.out.cells.1
  have kVX1 := VX.out.cells.2
  have kVY0 := VY.out.cells.1
  have kVY1 := VY.out.cells.2
  have kVZ0 := VZ.out.cells.1
  have kVZ1 := VZ.out.cells.2
  have kVU0 := VU.out.cells.1
  have kVU1 := VU.out.cells.2
  have kVV0 := VV.out.cells.1
  have kVV1 := VV.out.cells.2
  go_wp2_with (fail)
  generalize hW : (w_18.alloc (.cells #[.bool fVW, .slice AVW nVW cVW] 24)) = W_19 at *
  clear hW
  generalize w_18.heap.size = b_20 at *
  clear kVA0 kVA1 kVB0 kVB1 kVX0 kVX1 kVY0 kVY1 kVZ0 kVZ1 kVU0 kVU1 kVV0 kVV1
  refine (same_law _ _ _ _ _ _ _ VX.out.2 VU.out.2).mono ?_
  rw [sameB_self]
  rintro e w_21 ⟨rfl, qq⟩
  have HB := Lib.hid (bstep HB.out qq)
  have VA := Lib.hid (VA.out.step qq)
  have VB := Lib.hid (VB.out.step qq)
  have VX := Lib.hid (VX.out.step qq)
  have VY := Lib.hid (VY.out.step qq)
  have VZ := Lib.hid (VZ.out.step qq)
  have VU := Lib.hid (VU.out.step qq)
  have VV := Lib.hid (VV.out.step qq)
  have VW := Lib.hid (VW.out.step qq)
  clear qq
  have kVA0 := VA.out.cells.1
  have kVA1 := VA.out.cells.2
  have kVB0 := VB.out.cells.1
  have kVB1 := VB.out.cells.2
  have kVX0 := VX.out.cells.1
  have kVX1 := VX.out.cells.2
  have kVY0 := VY.out.cells.1
  have kVY1 := VY.out.cells.2
  have kVZ0 := VZ.out.cells.1
  have kVZ1 := VZ.out.cells.2
  have kVU0 := VU.out.cells.1
  have kVU1 := VU.out.cells.2
  have kVV0 := VV.out.cells.1
  have kVV1 := VV.out.cells.2
  have kVW0 := VW.out.cells.1
  have kVW1 := VW.out.cells.2
  go_wp2_with (fail)
  refine (same_law _ _ _ _ _ _ _ VY.out.2 VV.out.2).mono ?_
  rw [sameB_self]
  rintro e w_22 ⟨rfl, qq⟩
  clear kVA0 kVA1 kVB0 kVB1 kVX0 kVX1 kVY0 kVY1 kVZ0 kVZ1 kVU0 kVU1 kVV0 kVV1 kVW0 kVW1
  have HB := Lib.hid (bstep HB.out qq)
  have VA := Lib.hid (VA.out.step qq)
  have VB := Lib.hid (VB.out.step qq)
  have VX := Lib.hid (VX.out.step qq)
  have VY := Lib.hid (VY.out.step qq)
  have VZ := Lib.hid (VZ.out.step qq)
  have VU := Lib.hid (VU.out.step qq)
  have VV := Lib.hid (VV.out.step qq)
  have VW := Lib.hid (VW.out.step qq)
  clear qq
  have kVA0 := VA.out.cells.1
  have kVA1 := VA.out.cells.2
  have kVB0 := VB.out.cells.1
  have kVB1 := VB.out.cells.2
  have kVX0 := VX.out.cells.1
  have kVX1 := VX.out.cells.2
  have kVY0 := VY.out.cells.1
  have kVY1 := VY.out.cells.2
  have kVZ0 := VZ.out.cells.1
  have kVZ1 := VZ.out.cells.2
  have kVU0 := VU.out.cells.1
  have kVU1 := VU.out.cells.2
  have kVV0 := VV.out.cells.1
  have kVV1 := VV.out.cells.2
  have kVW0 := VW.out.cells.1
  have kVW1 := VW.out.cells.2
  go_wp2_with (fail)
  refine (same_law _ _ _ _ _ _ _ VZ.out.2 VW.out.2).mono ?_
  rw [sameB_self]
  rintro e w_23 ⟨rfl, qq⟩
  clear kVA0 kVA1 kVB0 kVB1 kVX0 kVX1 kVY0 kVY1 kVZ0 kVZ1 kVU0 kVU1 kVV0 kVV1 kVW0 kVW1
  have HB := Lib.hid (bstep HB.out qq)
  have VA := Lib.hid (VA.out.step qq)
  have VB := Lib.hid (VB.out.step qq)
  have VX := Lib.hid (VX.out.step qq)
  have VY := Lib.hid (VY.out.step qq)
  have VZ := Lib.hid (VZ.out.step qq)
  have VU := Lib.hid (VU.out.step qq)
  have VV := Lib.hid (VV.out.step qq)
  have VW := Lib.hid (VW.out.step qq)
  clear qq
  have kVA0 := VA.out.cells.1
  have kVA1 := VA.out.cells.2
  have kVB0 := VB.out.cells.1
  have kVB1 := VB.out.cells.2
  have kVX0 := VX.out.cells.1
  have kVX1 := VX.out.cells.2
  have kVY0 := VY.out.cells.1
  have kVY1 := VY.out.cells.2
  have kVZ0 := VZ.out.cells.1
  have kVZ1 := VZ.out.cells.2
  have kVU0 := VU.out.cells.1
  have kVU1 := VU.out.cells.2
  have kVV0 := VV.out.cells.1
  have kVV1 := VV.out.cells.2
  have kVW0 := VW.out.cells.1
  have kVW1 := VW.out.cells.2
  go_wp2_with (fail)
  refine (compare_int _ _ a b _ VA.out.2 VB.out.2 (Nat.lt_of_le_of_lt H0.out (by omega)) (Nat.lt_of_le_of_lt H1.out (by omega))).mono ?_
  rintro e w_24 ⟨rfl, qq⟩
  clear kVA0 kVA1 kVB0 kVB1 kVX0 kVX1 kVY0 kVY1 kVZ0 kVZ1 kVU0 kVU1 kVV0 kVV1 kVW0 kVW1
  have HB := Lib.hid (bstep HB.out qq)
  have VA := Lib.hid (VA.out.step qq)
  have VB := Lib.hid (VB.out.step qq)
  have VX := Lib.hid (VX.out.step qq)
  have VY := Lib.hid (VY.out.step qq)
  have VZ := Lib.hid (VZ.out.step qq)
  have VU := Lib.hid (VU.out.step qq)
  have VV := Lib.hid (VV.out.step qq)
  have VW := Lib.hid (VW.out.step qq)
  clear qq
  have kVA0 := VA.out.cells.1
  have kVA1 := VA.out.cells.2
  have kVB0 := VB.out.cells.1
  have kVB1 := VB.out.cells.2
  have kVX0 := VX.out.cells.1
  have kVX1 := VX.out.cells.2
  have kVY0 := VY.out.cells.1
  have kVY1 := VY.out.cells.2
  have kVZ0 := VZ.out.cells.1
  have kVZ1 := VZ.out.cells.2
  have kVU0 := VU.out.cells.1
  have kVU1 := VU.out.cells.2
  have kVV0 := VV.out.cells.1
  have kVV1 := VV.out.cells.2
  have kVW0 := VW.out.cells.1
  have kVW1 := VW.out.cells.2
  go_wp2_with (fail)
  refine (known_any _ (HT.out.below HB.out)).mono ?_
  rintro e wk ⟨rfl, qk⟩
  have HQ := Lib.hid (bstep HB.out qk)
  clear qk
  clear kVA0 kVA1 kVB0 kVB1 kVX0 kVX1 kVY0 kVY1 kVZ0 kVZ1 kVU0 kVU1 kVV0 kVV1 kVW0 kVW1
  go_wp2_with (fail)
  go_ret
  exact ⟨rfl, HQ.out⟩
theorem sums_any {f f' : Bool} {n v n' v' : Nat} (x y : Value) (w : World) (hx : RawIs w w.heap.size x f n v) (hy : RawIs w w.heap.size y f' n' v') (hv : v < 256 ^ n) (hv' : v' < 256 ^ n') (ht : Tens w) :
    Calls Tryd.prog 5 #[x, y] w fun e w' => e = .returned (.bool true) ∧ Below w.heap.size w w' := by
  by_cases hn : 80 < n ∨ 80 < n'
  · exact sums_big x y w hx hy hn ht
  · cases hb : validB f n v
    · exact sums_bad1 x y w hx hy hb (by omega) (by omega) ht
    · cases hb' : validB f' n' v'
      · exact sums_bad2 x y w hx hy hb hb' (by omega) (by omega) ht
      · obtain ⟨a, ha, ha64⟩ := hx.int hv hb
        obtain ⟨b, hb, hb64⟩ := hy.int hv' hb'
        exact sums_main x y a b w ha hb ha64 hb64 ht
end Go.Proofs.YtnkklmbmodkogaaDoor

/-! Di3 -/
namespace Go.Proofs.YtnkklmbmodkogaaDoor
open Go.RowKit

def RetInts (w : World) (z1 z2 : Int) (e : Ending) (w' : World) : Prop := (∃ x y, e = .returned (.tuple #[x, y]) ∧ IntIs w' w'.heap.size x z1 ∧ IntIs w' w'.heap.size y z2) ∧ Below w.heap.size w w'
theorem Ret2.ints {w w' : World} {z1 z2 er : Int} {x y : Value} (h : Ret2 w z1 z2 er (.returned (.tuple #[x, y, .int .i64 er])) w') : RetInts w z1 z2 (.returned (.tuple #[x, y])) w' := by
  obtain ⟨⟨x1, y1, e1, h1, h2⟩, hb⟩ := h
  simp only [Ending.returned.injEq, Value.tuple.injEq] at e1
  have e2 := congrArg Array.toList e1
  simp only [List.cons.injEq, and_true] at e2
  obtain ⟨rfl, rfl⟩ := e2
  exact ⟨⟨_, _, rfl, h1, h2⟩, hb⟩
theorem nat_one {w : World} {b : Nat} {T : TypeId} (h : Var w b T #[.int .u8 1]) : NatIs w w.heap.size (.slice (some ⟨b, 0, none⟩) 1 1) 1 := by
  have e : blen 1 = 1 := by decide
  exact ⟨_, 1, by rw [e], by rw [e]; omega, by decide, by rw [e]; exact bys_cell h rfl (by omega)⟩
theorem keep2 {W4 X : World} {g0 g1 : Nat} {v0 v1 : Value} (h : Below W4.heap.size W4 X) (hc : W4.cell? ⟨g0, 0, none⟩ = some v0 ∧ W4.cell? ⟨g1, 0, none⟩ = some v1) (h0 : g0 < W4.heap.size) (h1 : g1 < W4.heap.size) :
    X.cell? ⟨g0, 0, none⟩ = some v0 ∧ X.cell? ⟨g1, 0, none⟩ = some v1 := ⟨kept_cell h hc.1 h0, kept_cell h hc.2 h1⟩
theorem keep2s {X : World} {g0 g1 b o : Nat} {v v0 v1 : Value} (hc : X.cell? ⟨g0, 0, none⟩ = some v0 ∧ X.cell? ⟨g1, 0, none⟩ = some v1) (h0 : g0 ≠ b) (h1 : g1 ≠ b) :
    (X.setCell ⟨b, o, none⟩ v).cell? ⟨g0, 0, none⟩ = some v0 ∧ (X.setCell ⟨b, o, none⟩ v).cell? ⟨g1, 0, none⟩ = some v1 := ⟨(cell_far h0 v).trans hc.1, (cell_far h1 v).trans hc.2⟩
set_option maxRecDepth 100000 in
set_option maxHeartbeats 6000000 in
theorem refDivide_int (x x' : Value) (z z' : Int) (w : World) (hx : IntIs w w.heap.size x z) (hx' : IntIs w w.heap.size x' z') (hz : blen z.natAbs < 1000) (hz' : blen z'.natAbs < 1000) (h0 : z' ≠ 0) :
    Calls Tryd.prog 36 #[x, x'] w (RetInts w (sgn (decide (z < 0) != decide (z' < 0)) (dmU (decide (z < 0) != decide (z' < 0)) z.natAbs z'.natAbs)) (sgn (decide (z' < 0)) (dmR (decide (z < 0) != decide (z' < 0)) z.natAbs z'.natAbs))) := by
  obtain ⟨f, A, n, c, rfl, hx, hf, hn⟩ := hx.look
  obtain ⟨f', A', n', c', rfl, hx', hf', hn'⟩ := hx'.look
  obtain ⟨hv0, hv1, hv2, hv3, hbW, hsz⟩ := boxes4 w 24 24 24 24 #[.bool f, .slice A n c] #[.bool f', .slice A' n' c'] #[.bool false, .slice none 0 0] #[.bool false, .slice none 0 0]
  have hX := Lib.hid (hx.step hbW)
  have hX' := Lib.hid (hx'.step hbW)
  rw [← hf, ← hf']
  have h00 : 0 < z'.natAbs := by omega
  have BQ0 := Lib.hid (show blen (z.natAbs / z'.natAbs) < 1000 from Nat.lt_of_le_of_lt (blen_le (Nat.lt_of_le_of_lt (Nat.div_le_self _ _) (blen_hi z.natAbs))) hz)
  have BR0 := Lib.hid (show blen (z.natAbs % z'.natAbs) < 1000 from Nat.lt_of_le_of_lt (blen_le (Nat.lt_trans (Nat.mod_lt _ h00) (blen_hi z'.natAbs))) hz')
  have HLE := Lib.hid (Nat.le_of_lt (Nat.mod_lt z.natAbs h00))
  have HSP := Lib.hid (fun x y w h1 h2 => split_nat x y z.natAbs z'.natAbs w h1 h2 (by omega) (by omega) h00)
  generalize hzu : sgn (f != f') (dmU (f != f') z.natAbs z'.natAbs) = zu
  generalize hzr : sgn f' (dmR (f != f') z.natAbs z'.natAbs) = zr
  unfold dmU at hzu
  unfold dmR at hzr
  have HZ := Lib.hid hz
  have HZ' := Lib.hid hz'
  clear hx hx' hf hf' hn hn' hz hz' h0 h00
  generalize z.natAbs / z'.natAbs = Q0 at *
  generalize z.natAbs % z'.natAbs = R0 at *
  have HZU := Lib.hid hzu
  have HZR := Lib.hid hzr
  clear hzu hzr
  go_enter Tryd.func36, Tryd.ntmps36
  go_wp2_with fail
  generalize (((w.alloc (.cells #[.bool f, .slice A n c] 24)).alloc (.cells #[.bool f', .slice A' n' c'] 24)).alloc (.cells #[.bool false, .slice none 0 0] 24)).alloc (.cells #[.bool false, .slice none 0 0] 24) = W at *
  have k0 := hv0.cell 0
  have k1 := hv0.cell 1
  have k2 := hv1.cell 0
  have k3 := hv1.cell 1
  simp only [List.getElem?_toArray, List.getElem?_cons_succ, List.getElem?_cons_zero] at k0 k1 k2 k3
  have HWW := Lib.hid hbW
  have HV0 := Lib.hid hv0
  have HV1 := Lib.hid hv1
  have HV2 := Lib.hid hv2
  have HV3 := Lib.hid hv3
  have hlt : w.heap.size < W.heap.size := by omega
  have hlt1 : w.heap.size + 1 < W.heap.size := by omega
  have hlt3 : w.heap.size + 3 < W.heap.size := by omega
  clear hv0 hv1 hv2 hv3 hbW
  go_cut [6, 7] (fun p q wx => Hid (NatIs wx wx.heap.size p Q0) ∧ Hid (NatIs wx wx.heap.size q R0) ∧ Hid (Below W.heap.size W wx))
  case first =>
    go_region_held3 (fun w' => w'.cell? ⟨w.heap.size, 0, none⟩ = some (.bool f) ∧ w'.cell? ⟨w.heap.size, 1, none⟩ = some (.slice A n c) ∧ w'.cell? ⟨w.heap.size + 1, 0, none⟩ = some (.bool f') ∧ w'.cell? ⟨w.heap.size + 1, 1, none⟩ = some (.slice A' n' c')) (first | exact ⟨by assumption, by assumption, by assumption, by assumption⟩ | go_keep)
      (first
        | (go_at_call_of 47 (Value.agg #[Value.bool f', Value.slice A' n' c']); refine (abs_int _ z' _ (by exact hX'.out.step hc1) (Nat.lt_trans HZ'.out (by omega))).mono ?_; rintro e w2 ⟨⟨x2, rfl, hn2⟩, hq2⟩; have hc2 := hc1.trans (hq2.mono hc1.size); have k02 := kept_cell hc2 k0 hlt; have k12 := kept_cell hc2 k1 hlt; have k22 := kept_cell hc2 k2 hlt1; have k32 := kept_cell hc2 k3 hlt1; have hn1b := hn1.next hq2)
        | (go_at_call_of 47 (Value.agg #[Value.bool f, Value.slice A n c]); refine (abs_int _ z _ (by exact hX.out) (Nat.lt_trans HZ.out (by omega))).mono ?_; rintro e w1 ⟨⟨x1, rfl, hn1⟩, hq1⟩; have hc1 := undrew hq1; have k01 := kept_cell hc1 k0 hlt; have k11 := kept_cell hc1 k1 hlt; have k21 := kept_cell hc1 k2 hlt1; have k31 := kept_cell hc1 k3 hlt1)
        | (go_at_call 61; refine (HSP.out _ _ _ (by exact hn1b) (by exact hn2)).mono ?_; rintro e w3 ⟨⟨qa, qb, rfl, ja, jb⟩, hq3⟩; have hc3 := hc2.trans (hq3.mono hc2.size); have k03 := kept_cell hc3 k0 hlt; have k13 := kept_cell hc3 k1 hlt; have k23 := kept_cell hc3 k2 hlt1; have k33 := kept_cell hc3 k3 hlt1))
    all_goals
      go_wp2_with (fail)
      go_meet
      exact ⟨Lib.hid ja, Lib.hid jb, Lib.hid hc3⟩
  case rest =>
  obtain ⟨N1, N2, HC⟩ := hcut
  have k0 := kept_cell HC.out k0 hlt
  have k1 := kept_cell HC.out k1 hlt
  have k2 := kept_cell HC.out k2 hlt1
  have k3 := kept_cell HC.out k3 hlt1
  have hl3 : w.heap.size + 3 < wc.heap.size := Nat.lt_of_lt_of_le hlt3 HC.out.size
  rcases Nat.eq_zero_or_pos R0 with rfl | h0
  · obtain ⟨A7, c7, hx7, -, -, -⟩ := id N2.out
    subst hx7
    rw [blen_zero] at N2 ⊢
    have e : (f != f' && decide ((0 : Nat) ≠ 0)) = false := by simp
    rw [e] at HZU HZR
    have H6 := Lib.hid (show sgn (!(f == f')) Q0 = zu from HZU.out)
    have H7 := Lib.hid (show sgn f' 0 = zr from HZR.out)
    have B6 := Lib.hid (show blen Q0 < 1000000 from Nat.lt_trans BQ0.out (by omega))
    have B7 := Lib.hid (show blen 0 < 1000000 from by rw [blen_zero]; omega)
    clear e
    go_wp2_with (fail)
    have HC0 := HC
    have hX0 : w.heap.size < wc.heap.size := by have := HC0.out.size; omega
    have hX1 : w.heap.size + 1 < wc.heap.size := by have := HC0.out.size; omega
    have hX3 : w.heap.size + 3 < wc.heap.size := by have := HC0.out.size; omega
    have K0 := (HV0.out.below HC0.out (by omega)).cell 0
    have K1 := (HV1.out.below HC0.out (by omega)).cell 0
    simp only [List.getElem?_toArray, List.getElem?_cons_zero] at K0 K1
    have hS := Lib.hid (And.intro K0 K1)
    have hY1 : w.heap.size ≠ w.heap.size + 1 + 1 := by omega
    have hY2 : w.heap.size + 1 ≠ w.heap.size + 1 + 1 := by omega
    have hY3 : w.heap.size ≠ w.heap.size + 1 + 1 + 1 := by omega
    have hY4 : w.heap.size + 1 ≠ w.heap.size + 1 + 1 + 1 := by omega
    have tok := True.intro
    clear K0 K1 k0 k1 k2 k3
    go_region_held3 (fun w' => w'.cell? ⟨w.heap.size, 0, none⟩ = some (.bool f) ∧ w'.cell? ⟨w.heap.size + 1, 0, none⟩ = some (.bool f'))
      ((first | exact keep2 (below_drew0 wc) hS.out hX0 hX1 | exact keep2 hb hS.out hX0 hX1 | exact keep2s (keep2s (keep2 hb hS.out hX0 hX1) hY1 hY2) hY1 hY2 | exact keep2s (keep2s (keep2s (keep2s (keep2 hb hS.out hX0 hX1) hY1 hY2) hY1 hY2) hY3 hY4) hY3 hY4))
      (first
        | (go_at_call 48; have _t := tok; refine (make_nat _ _ Q0 _ (by exact N1.out) B6.out).mono ?_; rintro e w8 ⟨⟨x1, rfl, hi⟩, hq⟩; have hb := bstep (below_drew0 wc) hq; have j7 := NatIs.next N2.out (undrew hq); rw [H6.out] at hi; obtain ⟨f1, A1, n1, c1', rfl, hi1, -, -⟩ := hi.look; clear _t tok hq hi)
        | (go_at_call 48; refine (make_nat f' _ 0 _ (by exact j7) B7.out).mono ?_; rintro e w9 ⟨⟨x2, rfl, hj⟩, hq⟩; have hb2 := bstep hb hq; rw [H7.out] at hj; have hi2 := Lib.hid (hi1.step hq); obtain ⟨f2, A2, n2, c2', rfl, hj1, -, -⟩ := hj.look; have hj2 := Lib.hid hj1; have hb9 := HC0.out.trans (hb2.mono HC0.out.size); have y2 := HV2.out.below hb9 (by omega); have y3 := HV3.out.below hb9 (by omega); have s0 := y2.cell 0; have s1 := y2.cell 1; have s2 := y3.cell 0; have s3 := y3.cell 1; have z0 := y2.free 0; have z1 := y2.free 1; have z2 := y3.free 0; have z3 := y3.free 1; simp only [List.getElem?_toArray, List.getElem?_cons_succ, List.getElem?_cons_zero] at s0 s1 s2 s3; have Y2 := Lib.hid y2; have Y3 := Lib.hid y3; have HB9 := Lib.hid (HWW.out.trans (hb9.mono (by omega))); clear hb hq hi1 hj hj1 hb9 y2 y3; have hb := hb2))
    all_goals
      have HXX := Lib.hid (ret2_store (er := 0) hi2.out hj2.out Y2.out Y3.out (by omega) HB9.out (by omega) (by omega)).ints
      go_wp2_with (fail)
      exact bodyPost_ret (v := .tuple #[.agg #[.bool f1, .slice A1 n1 c1'], .agg #[.bool f2, .slice A2 n2 c2']]) (by simp [results, Tryd.results36, go_sem, s0, s1, s2, s3]) rfl HXX.out
  · obtain ⟨A7, c7, hx7, -, -, -⟩ := id N2.out
    subst hx7
    have hp : (0 : Int) < (blen R0 : Int) := by have := blen_pos h0; omega
    cases hB : (f == f')
    · have e : (f != f' && decide (R0 ≠ 0)) = true := by simp [bne, hB]; omega
      rw [e] at HZU HZR
      have H6 := Lib.hid (show sgn (!(f == f')) (Q0 + 1) = zu by exact HZU.out)
      have H7 := Lib.hid (show sgn f' (z'.natAbs - R0) = zr from HZR.out)
      have B6 := Lib.hid (show blen (Q0 + 1) < 1000000 from Nat.lt_of_le_of_lt (blen_add (b := 1001) (by have := BQ0.out; omega) (by rw [show blen 1 = 1 from by decide]; omega)) (by omega))
      have B7 := Lib.hid (show blen (z'.natAbs - R0) < 1000000 from Nat.lt_of_le_of_lt (blen_sub (b := 1001) (by have := HZ'.out; omega)) (by omega))
      have hl0 : w.heap.size < wc.heap.size := by omega
      have hl1 : w.heap.size + 1 < wc.heap.size := by omega
      have BQ1 := Lib.hid (show blen Q0 < 1000000 from Nat.lt_trans BQ0.out (by omega))
      have BR1 := Lib.hid (show blen R0 < 1000000 from Nat.lt_trans BR0.out (by omega))
      have B11 := Lib.hid (show blen 1 < 1000000 from by decide)
      have BV1 := Lib.hid (show blen z'.natAbs < 1000000 from Nat.lt_trans HZ'.out (by omega))
      have XI := Lib.hid (hX'.out.step HC.out)
      clear e h0
      go_wp2_with (fail)
      go_cut [6, 7] (fun p q wx => Hid (NatIs wx wx.heap.size p (Q0 + 1)) ∧ Hid (NatIs wx wx.heap.size q (z'.natAbs - R0)) ∧ Hid (Below wc.heap.size wc wx))
      case first =>
        go_region_held3 (fun w' => w'.cell? ⟨w.heap.size + 1, 0, none⟩ = some (.bool f') ∧ w'.cell? ⟨w.heap.size + 1, 1, none⟩ = some (.slice A' n' c')) (first | exact ⟨by assumption, by assumption⟩ | exact ⟨kept_cell hB1 k2 hl1, kept_cell hB1 k3 hl1⟩ | exact ⟨kept_cell (below_alloc wc _).drew k2 hl1, kept_cell (below_alloc wc _).drew k3 hl1⟩ | go_keep)
          (first
            | (go_at_call 53; refine (plus_nat _ _ Q0 1 _ ?_ ?_ BQ1.out B11.out).mono ?_; (exact N1.out.next (below_alloc wc _).drew); (exact nat_one (Var.new wc 5 #[.int .u8 1])); rintro e w2 ⟨⟨x1, rfl, n1⟩, hq⟩; have hB1 := bstep (below_alloc wc _).drew hq; clear hq)
            | (go_at_call 47; refine (abs_int _ z' _ (by exact XI.out.step hB1) BV1.out).mono ?_; rintro e w3 ⟨⟨x2, rfl, n2⟩, hq⟩; have hB2 := bstep hB1 hq; have n1' := n1.next hq; clear hq hB1; have hB1 := hB2)
            | (go_at_call 54; refine (minus_nat _ _ z'.natAbs R0 _ (by exact n2) (by exact N2.out.next hB1) BV1.out BR1.out HLE.out).mono ?_; rintro e w4 ⟨⟨x3, rfl, n3⟩, hq⟩; have hB3 := bstep hB1 hq; have n1'' := n1'.next hq; clear hq hB1; have hB1 := hB3))
        all_goals
          go_wp2_with (fail)
          go_meet
          exact ⟨Lib.hid n1'', Lib.hid n3, Lib.hid hB3⟩
      case rest =>
      obtain ⟨M1, M2, MC⟩ := hcut
      have HC3 := Lib.hid (HC.out.trans (MC.out.mono HC.out.size))
      go_wp2_with (fail)
      clear hB
      have HC0 := HC3
      have hX0 : w.heap.size < wc.heap.size := by have := HC0.out.size; omega
      have hX1 : w.heap.size + 1 < wc.heap.size := by have := HC0.out.size; omega
      have hX3 : w.heap.size + 3 < wc.heap.size := by have := HC0.out.size; omega
      have K0 := (HV0.out.below HC0.out (by omega)).cell 0
      have K1 := (HV1.out.below HC0.out (by omega)).cell 0
      simp only [List.getElem?_toArray, List.getElem?_cons_zero] at K0 K1
      have hS := Lib.hid (And.intro K0 K1)
      have hY1 : w.heap.size ≠ w.heap.size + 1 + 1 := by omega
      have hY2 : w.heap.size + 1 ≠ w.heap.size + 1 + 1 := by omega
      have hY3 : w.heap.size ≠ w.heap.size + 1 + 1 + 1 := by omega
      have hY4 : w.heap.size + 1 ≠ w.heap.size + 1 + 1 + 1 := by omega
      have tok := True.intro
      clear K0 K1 k0 k1 k2 k3
      go_region_held3 (fun w' => w'.cell? ⟨w.heap.size, 0, none⟩ = some (.bool f) ∧ w'.cell? ⟨w.heap.size + 1, 0, none⟩ = some (.bool f'))
        ((first | exact keep2 (below_drew0 wc) hS.out hX0 hX1 | exact keep2 hb hS.out hX0 hX1 | exact keep2s (keep2s (keep2 hb hS.out hX0 hX1) hY1 hY2) hY1 hY2 | exact keep2s (keep2s (keep2s (keep2s (keep2 hb hS.out hX0 hX1) hY1 hY2) hY1 hY2) hY3 hY4) hY3 hY4))
        (first
          | (go_at_call 48; have _t := tok; refine (make_nat _ _ (Q0 + 1) _ (by exact M1.out) B6.out).mono ?_; rintro e w8 ⟨⟨x1, rfl, hi⟩, hq⟩; have hb := bstep (below_drew0 wc) hq; have j7 := NatIs.next M2.out (undrew hq); rw [H6.out] at hi; obtain ⟨f1, A1, n1, c1', rfl, hi1, -, -⟩ := hi.look; clear _t tok hq hi)
          | (go_at_call 48; refine (make_nat f' _ (z'.natAbs - R0) _ (by exact j7) B7.out).mono ?_; rintro e w9 ⟨⟨x2, rfl, hj⟩, hq⟩; have hb2 := bstep hb hq; rw [H7.out] at hj; have hi2 := Lib.hid (hi1.step hq); obtain ⟨f2, A2, n2, c2', rfl, hj1, -, -⟩ := hj.look; have hj2 := Lib.hid hj1; have hb9 := HC0.out.trans (hb2.mono HC0.out.size); have y2 := HV2.out.below hb9 (by omega); have y3 := HV3.out.below hb9 (by omega); have s0 := y2.cell 0; have s1 := y2.cell 1; have s2 := y3.cell 0; have s3 := y3.cell 1; have z0 := y2.free 0; have z1 := y2.free 1; have z2 := y3.free 0; have z3 := y3.free 1; simp only [List.getElem?_toArray, List.getElem?_cons_succ, List.getElem?_cons_zero] at s0 s1 s2 s3; have Y2 := Lib.hid y2; have Y3 := Lib.hid y3; have HB9 := Lib.hid (HWW.out.trans (hb9.mono (by omega))); clear hb hq hi1 hj hj1 hb9 y2 y3; have hb := hb2))
      all_goals
        have HXX := Lib.hid (ret2_store (er := 0) hi2.out hj2.out Y2.out Y3.out (by omega) HB9.out (by omega) (by omega)).ints
        go_wp2_with (fail)
        exact bodyPost_ret (v := .tuple #[.agg #[.bool f1, .slice A1 n1 c1'], .agg #[.bool f2, .slice A2 n2 c2']]) (by simp [results, Tryd.results36, go_sem, s0, s1, s2, s3]) rfl HXX.out
    · have e : (f != f' && decide (R0 ≠ 0)) = false := by simp [bne, hB]
      rw [e] at HZU HZR
      have H6 := Lib.hid (show sgn (!(f == f')) Q0 = zu by exact HZU.out)
      have H7 := Lib.hid (show sgn f' R0 = zr from HZR.out)
      have B6 := Lib.hid (show blen Q0 < 1000000 from Nat.lt_trans BQ0.out (by omega))
      have B7 := Lib.hid (show blen R0 < 1000000 from Nat.lt_trans BR0.out (by omega))
      clear e
      go_wp2_with (fail)
      clear hB
      have HC0 := HC
      have hX0 : w.heap.size < wc.heap.size := by have := HC0.out.size; omega
      have hX1 : w.heap.size + 1 < wc.heap.size := by have := HC0.out.size; omega
      have hX3 : w.heap.size + 3 < wc.heap.size := by have := HC0.out.size; omega
      have K0 := (HV0.out.below HC0.out (by omega)).cell 0
      have K1 := (HV1.out.below HC0.out (by omega)).cell 0
      simp only [List.getElem?_toArray, List.getElem?_cons_zero] at K0 K1
      have hS := Lib.hid (And.intro K0 K1)
      have hY1 : w.heap.size ≠ w.heap.size + 1 + 1 := by omega
      have hY2 : w.heap.size + 1 ≠ w.heap.size + 1 + 1 := by omega
      have hY3 : w.heap.size ≠ w.heap.size + 1 + 1 + 1 := by omega
      have hY4 : w.heap.size + 1 ≠ w.heap.size + 1 + 1 + 1 := by omega
      have tok := True.intro
      clear K0 K1 k0 k1 k2 k3
      go_region_held3 (fun w' => w'.cell? ⟨w.heap.size, 0, none⟩ = some (.bool f) ∧ w'.cell? ⟨w.heap.size + 1, 0, none⟩ = some (.bool f'))
        ((first | exact keep2 (below_drew0 wc) hS.out hX0 hX1 | exact keep2 hb hS.out hX0 hX1 | exact keep2s (keep2s (keep2 hb hS.out hX0 hX1) hY1 hY2) hY1 hY2 | exact keep2s (keep2s (keep2s (keep2s (keep2 hb hS.out hX0 hX1) hY1 hY2) hY1 hY2) hY3 hY4) hY3 hY4))
        (first
          | (go_at_call 48; have _t := tok; refine (make_nat _ _ Q0 _ (by exact N1.out) B6.out).mono ?_; rintro e w8 ⟨⟨x1, rfl, hi⟩, hq⟩; have hb := bstep (below_drew0 wc) hq; have j7 := NatIs.next N2.out (undrew hq); rw [H6.out] at hi; obtain ⟨f1, A1, n1, c1', rfl, hi1, -, -⟩ := hi.look; clear _t tok hq hi)
          | (go_at_call 48; refine (make_nat f' _ R0 _ (by exact j7) B7.out).mono ?_; rintro e w9 ⟨⟨x2, rfl, hj⟩, hq⟩; have hb2 := bstep hb hq; rw [H7.out] at hj; have hi2 := Lib.hid (hi1.step hq); obtain ⟨f2, A2, n2, c2', rfl, hj1, -, -⟩ := hj.look; have hj2 := Lib.hid hj1; have hb9 := HC0.out.trans (hb2.mono HC0.out.size); have y2 := HV2.out.below hb9 (by omega); have y3 := HV3.out.below hb9 (by omega); have s0 := y2.cell 0; have s1 := y2.cell 1; have s2 := y3.cell 0; have s3 := y3.cell 1; have z0 := y2.free 0; have z1 := y2.free 1; have z2 := y3.free 0; have z3 := y3.free 1; simp only [List.getElem?_toArray, List.getElem?_cons_succ, List.getElem?_cons_zero] at s0 s1 s2 s3; have Y2 := Lib.hid y2; have Y3 := Lib.hid y3; have HB9 := Lib.hid (HWW.out.trans (hb9.mono (by omega))); clear hb hq hi1 hj hj1 hb9 y2 y3; have hb := hb2))
      all_goals
        have HXX := Lib.hid (ret2_store (er := 0) hi2.out hj2.out Y2.out Y3.out (by omega) HB9.out (by omega) (by omega)).ints
        go_wp2_with (fail)
        exact bodyPost_ret (v := .tuple #[.agg #[.bool f1, .slice A1 n1 c1'], .agg #[.bool f2, .slice A2 n2 c2']]) (by simp [results, Tryd.results36, go_sem, s0, s1, s2, s3]) rfl HXX.out
end Go.Proofs.YtnkklmbmodkogaaDoor

/-! Dd1 -/
namespace Go.Proofs.YtnkklmbmodkogaaDoor
open Go.RowKit

theorem divMod_all (x y : Value) (a b : Int) (w : World) (hx : IntIs w w.heap.size x a) (hy : IntIs w w.heap.size y b) (ha : blen a.natAbs ≤ 64) (hb : blen b.natAbs ≤ 64) (hb0 : b ≠ 0) :
    Calls Tryd.prog 33 #[x, y] w (Ret2 w (sgn (decide (a < 0) != decide (b < 0)) (dmU (decide (a < 0) != decide (b < 0)) a.natAbs b.natAbs)) (sgn (decide (b < 0)) (dmR (decide (a < 0) != decide (b < 0)) a.natAbs b.natAbs)) 0) :=
  divMod_int x y a b w hx hy ha hb hb0 (divOK_all (abs_lt ha) (abs_lt hb) (by omega))
theorem two_vars {w : World} {f f' : Bool} {A A' : Option Addr} {n c n' c' : Nat} {z z' : Int} (h : IntIs w w.heap.size (.agg #[.bool f, .slice A n c]) z) (h' : IntIs w w.heap.size (.agg #[.bool f', .slice A' n' c']) z') :
    IntVar ((w.alloc (.cells #[.bool f, .slice A n c] 24)).alloc (.cells #[.bool f', .slice A' n' c'] 24)) w.heap.size f A n c z ∧ IntVar ((w.alloc (.cells #[.bool f, .slice A n c] 24)).alloc (.cells #[.bool f', .slice A' n' c'] 24)) (w.heap.size + 1) f' A' n' c' z' ∧
    Below w.heap.size w ((w.alloc (.cells #[.bool f, .slice A n c] 24)).alloc (.cells #[.bool f', .slice A' n' c'] 24)) := by
  obtain ⟨v0, v1, hb, -⟩ := boxes2 w 24 24 #[.bool f, .slice A n c] #[.bool f', .slice A' n' c']
  exact ⟨⟨v0, h.step hb⟩, ⟨v1, h'.step hb⟩, hb⟩
theorem keep6 {W4 X : World} {g0 g1 g2 : Nat} {t0 t1 t2 t3 t4 t5 : Value} (h : Below W4.heap.size W4 X) (c0 : W4.cell? ⟨g0, 0, none⟩ = some t0) (c1 : W4.cell? ⟨g0, 1, none⟩ = some t1) (c2 : W4.cell? ⟨g1, 0, none⟩ = some t2) (c3 : W4.cell? ⟨g1, 1, none⟩ = some t3) (c4 : W4.cell? ⟨g2, 0, none⟩ = some t4) (c5 : W4.cell? ⟨g2, 1, none⟩ = some t5) (h0 : g0 < W4.heap.size) (h1 : g1 < W4.heap.size) (h2 : g2 < W4.heap.size) :
    X.cell? ⟨g0, 0, none⟩ = some t0 ∧ X.cell? ⟨g0, 1, none⟩ = some t1 ∧ X.cell? ⟨g1, 0, none⟩ = some t2 ∧ X.cell? ⟨g1, 1, none⟩ = some t3 ∧ X.cell? ⟨g2, 0, none⟩ = some t4 ∧ X.cell? ⟨g2, 1, none⟩ = some t5 :=
  ⟨kept_cell h c0 h0, kept_cell h c1 h0, kept_cell h c2 h1, kept_cell h c3 h1, kept_cell h c4 h2, kept_cell h c5 h2⟩
set_option maxRecDepth 100000 in
set_option maxHeartbeats 8000000 in
theorem div_big {f f' : Bool} {n v n' v' : Nat} (x y : Value) (w : World) (hx : RawIs w w.heap.size x f n v) (hy : RawIs w w.heap.size y f' n' v') (h : 80 < n ∨ 80 < n') (ht : Tens w) :
    Calls Tryd.prog 6 #[x, y] w fun e w' => e = .returned (.bool true) ∧ Below w.heap.size w w' := by
  obtain ⟨A, c, rfl, hx⟩ := hx.look
  obtain ⟨A', c', rfl, hy⟩ := hy.look
  obtain ⟨va, vb, hb⟩ := two_raw hx hy
  have hq := below_alloc ((w.alloc (.cells #[.bool f, .slice A n c] 24)).alloc (.cells #[.bool f', .slice A' n' c'] 24)) (.cells #[.bool f, .slice A n c, .bool f', .slice A' n' c'] 24)
  have RA := Lib.hid (va.step hq)
  have RB := Lib.hid (vb.step hq)
  have HB := Lib.hid (bstep hb hq)
  have k0 := va.cells.1
  have k1 := va.cells.2
  have k2 := vb.cells.1
  have k3 := vb.cells.2
  have h4 := big4 ((w.alloc (.cells #[.bool f, .slice A n c] 24)).alloc (.cells #[.bool f', .slice A' n' c'] 24)) f f' A A' n c n' c'
  have HG := big_two _ A A' n c n' c' _ h4.1 h4.2
  rw [show (decide (80 < n) || decide (80 < n')) = true from by rcases h with h | h <;> simp [h]] at HG
  have HG := Lib.hid HG
  have HT := Lib.hid ht
  clear hx hy va vb hb hq h4 ht
  go_enter Tryd.func6, Tryd.ntmps6
  go_wp2_with (fail)
  generalize hW : ((w.alloc (.cells #[.bool f, .slice A n c] 24)).alloc (.cells #[.bool f', .slice A' n' c'] 24)).alloc (.cells #[.bool f, .slice A n c, .bool f', .slice A' n' c'] 24) = W at *
  clear hW k0 k1 k2 k3
  have HG := HG.out
  simp only [show ((w.alloc (.cells #[.bool f, .slice A n c] 24)).alloc (.cells #[.bool f', .slice A' n' c'] 24)).heap.size = w.heap.size + 1 + 1 from by simp] at HG
  refine HG.mono ?_
  rintro e w' ⟨rfl, rfl⟩
  clear HG
  clear h
  go_wp2_with (fail)
  refine (known_any _ (HT.out.below HB.out)).mono ?_
  rintro e wk ⟨rfl, qk⟩
  have HQ := Lib.hid (bstep HB.out qk)
  clear qk
  go_wp2_with (fail)
  go_ret
  exact ⟨rfl, HQ.out⟩
set_option maxRecDepth 100000 in
set_option maxHeartbeats 8000000 in
theorem div_bad1 {f f' : Bool} {n v n' v' : Nat} (x y : Value) (w : World) (hx : RawIs w w.heap.size x f n v) (hy : RawIs w w.heap.size y f' n' v') (h0 : validB f n v = false) (h : n ≤ 80) (h' : n' ≤ 80) (ht : Tens w) :
    Calls Tryd.prog 6 #[x, y] w fun e w' => e = .returned (.bool true) ∧ Below w.heap.size w w' := by
  have H0 := Lib.hid h0
  clear h0
  obtain ⟨A, c, rfl, hx⟩ := hx.look
  obtain ⟨A', c', rfl, hy⟩ := hy.look
  obtain ⟨va, vb, hb⟩ := two_raw hx hy
  have hq := below_alloc ((w.alloc (.cells #[.bool f, .slice A n c] 24)).alloc (.cells #[.bool f', .slice A' n' c'] 24)) (.cells #[.bool f, .slice A n c, .bool f', .slice A' n' c'] 24)
  have RA := Lib.hid (va.step hq)
  have RB := Lib.hid (vb.step hq)
  have HB := Lib.hid (bstep hb hq)
  have k0 := va.cells.1
  have k1 := va.cells.2
  have k2 := vb.cells.1
  have k3 := vb.cells.2
  have h4 := big4 ((w.alloc (.cells #[.bool f, .slice A n c] 24)).alloc (.cells #[.bool f', .slice A' n' c'] 24)) f f' A A' n c n' c'
  have HG := big_two _ A A' n c n' c' _ h4.1 h4.2
  rw [show (decide (80 < n) || decide (80 < n')) = false from by rw [decide_eq_false (by omega), decide_eq_false (by omega)]; rfl] at HG
  have HG := Lib.hid HG
  have HT := Lib.hid ht
  clear hx hy va vb hb hq h4 ht
  go_enter Tryd.func6, Tryd.ntmps6
  go_wp2_with (fail)
  generalize hW : ((w.alloc (.cells #[.bool f, .slice A n c] 24)).alloc (.cells #[.bool f', .slice A' n' c'] 24)).alloc (.cells #[.bool f, .slice A n c, .bool f', .slice A' n' c'] 24) = W at *
  clear hW k0 k1 k2 k3
  have HG := HG.out
  simp only [show ((w.alloc (.cells #[.bool f, .slice A n c] 24)).alloc (.cells #[.bool f', .slice A' n' c'] 24)).heap.size = w.heap.size + 1 + 1 from by simp] at HG
  refine HG.mono ?_
  rintro e w' ⟨rfl, rfl⟩
  clear HG
  clear h h'
  have kRA0 := RA.out.cells.1
  have kRA1 := RA.out.cells.2
  have kRB0 := RB.out.cells.1
  have kRB1 := RB.out.cells.2
  go_wp2_with (fail)
  refine (divMod_bad1 _ _ _ RA.out.2 H0.out RB.out.2).mono ?_
  rintro e w_1 ⟨⟨yy, zz, rfl, j1, j2⟩, qq⟩
  obtain ⟨fVX, AVX, nVX, cVX, rfl, j1, -, -⟩ := j1.look
  obtain ⟨fVY, AVY, nVY, cVY, rfl, j2, -, -⟩ := j2.look
  obtain ⟨VX, VY, qa⟩ := two_vars j1 j2
  have VX := Lib.hid VX
  have VY := Lib.hid VY
  have qa := bstep qq qa
  clear kRA0 kRA1 kRB0 kRB1
  have HB := Lib.hid (bstep HB.out qa)
  have RA := Lib.hid (RA.out.step qa)
  have RB := Lib.hid (RB.out.step qa)
  clear qq qa j1 j2
  have kRA0 := RA.out.cells.1
  have kRA1 := RA.out.cells.2
  have kRB0 := RB.out.cells.1
  have kRB1 := RB.out.cells.2
  go_wp2_with (fail)
  generalize hW : (w_1.alloc (.cells #[.bool fVX, .slice AVX nVX cVX] 24)).alloc (.cells #[.bool fVY, .slice AVY nVY cVY] 24) = W_2 at *
  clear hW
  generalize w_1.heap.size = bVX at *
  refine (gcd_bad1 _ _ _ RA.out.2 H0.out RB.out.2).mono ?_
  rintro e w_3 ⟨⟨yy, rfl, j1⟩, qq⟩
  obtain ⟨fVZ, AVZ, nVZ, cVZ, rfl, j1, -, -⟩ := j1.look
  have VZ := Lib.hid (IntVar.new j1)
  have qa := bstep qq (below_alloc w_3 (.cells #[.bool fVZ, .slice AVZ nVZ cVZ] 24))
  clear kRA0 kRA1 kRB0 kRB1
  have HB := Lib.hid (bstep HB.out qa)
  have RA := Lib.hid (RA.out.step qa)
  have RB := Lib.hid (RB.out.step qa)
  have VX := Lib.hid (VX.out.step qa)
  have VY := Lib.hid (VY.out.step qa)
  clear qq qa j1
  have kRA0 := RA.out.cells.1
  have kRA1 := RA.out.cells.2
  have kRB0 := RB.out.cells.1
  have kRB1 := RB.out.cells.2
  go_wp2_with (fail)
  generalize hW : (w_3.alloc (.cells #[.bool fVZ, .slice AVZ nVZ cVZ] 24)) = W_4 at *
  clear hW
  generalize w_3.heap.size = b_5 at *
  refine (rvalid_is _ _ RA.out.2).mono ?_
  rw [H0.out]
  rintro e w_6 ⟨rfl, qq⟩
  clear kRA0 kRA1 kRB0 kRB1
  have HB := Lib.hid (bstep HB.out qq)
  have RA := Lib.hid (RA.out.step qq)
  have RB := Lib.hid (RB.out.step qq)
  have VX := Lib.hid (VX.out.step qq)
  have VY := Lib.hid (VY.out.step qq)
  have VZ := Lib.hid (VZ.out.step qq)
  clear qq
  have VN := Lib.hid (IntVar.new (intIs_zero w_6 _))
  have qa := below_alloc w_6 (.cells #[.bool false, .slice none 0 0] 24)
  have HB := Lib.hid (bstep HB.out qa)
  have RA := Lib.hid (RA.out.step qa)
  have RB := Lib.hid (RB.out.step qa)
  have VX := Lib.hid (VX.out.step qa)
  have VY := Lib.hid (VY.out.step qa)
  have VZ := Lib.hid (VZ.out.step qa)
  clear qa
  have kVX0 := VX.out.cells.1
  have kVX1 := VX.out.cells.2
  have kVY0 := VY.out.cells.1
  have kVY1 := VY.out.cells.2
  have kVZ0 := VZ.out.cells.1
  have kVZ1 := VZ.out.cells.2
  have kVN0 := VN.out.cells.1
  have kVN1 := VN.out.cells.2
  have kRA0 := RA.out.cells.1
  have kRA1 := RA.out.cells.2
  have kRB0 := RB.out.cells.1
  have kRB1 := RB.out.cells.2
  go_wp2_with (fail)
  generalize hW : (w_6.alloc (.cells #[.bool false, .slice none 0 0] 24)) = WN at *
  clear hW
  generalize w_6.heap.size = bN at *
  refine (same_law _ _ 2 2 0 0 _ VX.out.2 VN.out.2).mono ?_
  rw [sameB_self]
  rintro e w_7 ⟨rfl, qq⟩
  clear kVX0 kVX1 kVY0 kVY1 kVZ0 kVZ1 kVN0 kVN1 kRA0 kRA1 kRB0 kRB1
  have HB := Lib.hid (bstep HB.out qq)
  have RA := Lib.hid (RA.out.step qq)
  have RB := Lib.hid (RB.out.step qq)
  have VX := Lib.hid (VX.out.step qq)
  have VY := Lib.hid (VY.out.step qq)
  have VZ := Lib.hid (VZ.out.step qq)
  have VN := Lib.hid (VN.out.step qq)
  clear qq
  have kVX0 := VX.out.cells.1
  have kVX1 := VX.out.cells.2
  have kVY0 := VY.out.cells.1
  have kVY1 := VY.out.cells.2
  have kVZ0 := VZ.out.cells.1
  have kVZ1 := VZ.out.cells.2
  have kVN0 := VN.out.cells.1
  have kVN1 := VN.out.cells.2
  go_wp2_with (fail)
  refine (same_int _ _ 0 0 _ VY.out.2 VN.out.2).mono ?_
  rw [show decide ((0 : Int) = 0) = true from rfl]
  rintro e w_8 ⟨rfl, qq⟩
  clear kVX0 kVX1 kVY0 kVY1 kVZ0 kVZ1 kVN0 kVN1
  have HB := Lib.hid (bstep HB.out qq)
  have RA := Lib.hid (RA.out.step qq)
  have RB := Lib.hid (RB.out.step qq)
  have VX := Lib.hid (VX.out.step qq)
  have VY := Lib.hid (VY.out.step qq)
  have VZ := Lib.hid (VZ.out.step qq)
  have VN := Lib.hid (VN.out.step qq)
  clear qq
  have kVX0 := VX.out.cells.1
  have kVX1 := VX.out.cells.2
  have kVY0 := VY.out.cells.1
  have kVY1 := VY.out.cells.2
  have kVZ0 := VZ.out.cells.1
  have kVZ1 := VZ.out.cells.2
  have kVN0 := VN.out.cells.1
  have kVN1 := VN.out.cells.2
  go_wp2_with (fail)
  refine (same_law _ _ 2 2 0 0 _ VZ.out.2 VN.out.2).mono ?_
  rw [sameB_self]
  rintro e w_9 ⟨rfl, qq⟩
  clear kVX0 kVX1 kVY0 kVY1 kVZ0 kVZ1 kVN0 kVN1
  have HB := Lib.hid (bstep HB.out qq)
  have RA := Lib.hid (RA.out.step qq)
  have RB := Lib.hid (RB.out.step qq)
  have VX := Lib.hid (VX.out.step qq)
  have VY := Lib.hid (VY.out.step qq)
  have VZ := Lib.hid (VZ.out.step qq)
  have VN := Lib.hid (VN.out.step qq)
  clear qq
  have kVX0 := VX.out.cells.1
  have kVX1 := VX.out.cells.2
  have kVY0 := VY.out.cells.1
  have kVY1 := VY.out.cells.2
  have kVZ0 := VZ.out.cells.1
  have kVZ1 := VZ.out.cells.2
  have kVN0 := VN.out.cells.1
  have kVN1 := VN.out.cells.2
  go_wp2_with (fail)
  refine (known_any _ (HT.out.below HB.out)).mono ?_
  rintro e wk ⟨rfl, qk⟩
  have HQ := Lib.hid (bstep HB.out qk)
  clear qk
  clear kVX0 kVX1 kVY0 kVY1 kVZ0 kVZ1 kVN0 kVN1
  go_wp2_with (fail)
  go_ret
  exact ⟨rfl, HQ.out⟩
set_option maxRecDepth 100000 in
set_option maxHeartbeats 8000000 in
theorem div_bad2 {f f' : Bool} {n v n' v' : Nat} (x y : Value) (w : World) (hx : RawIs w w.heap.size x f n v) (hy : RawIs w w.heap.size y f' n' v') (h0 : validB f n v = true) (h1 : validB f' n' v' = false) (h : n ≤ 80) (h' : n' ≤ 80) (ht : Tens w) :
    Calls Tryd.prog 6 #[x, y] w fun e w' => e = .returned (.bool true) ∧ Below w.heap.size w w' := by
  have H0 := Lib.hid h0
  have H1 := Lib.hid h1
  clear h0 h1
  obtain ⟨A, c, rfl, hx⟩ := hx.look
  obtain ⟨A', c', rfl, hy⟩ := hy.look
  obtain ⟨va, vb, hb⟩ := two_raw hx hy
  have hq := below_alloc ((w.alloc (.cells #[.bool f, .slice A n c] 24)).alloc (.cells #[.bool f', .slice A' n' c'] 24)) (.cells #[.bool f, .slice A n c, .bool f', .slice A' n' c'] 24)
  have RA := Lib.hid (va.step hq)
  have RB := Lib.hid (vb.step hq)
  have HB := Lib.hid (bstep hb hq)
  have k0 := va.cells.1
  have k1 := va.cells.2
  have k2 := vb.cells.1
  have k3 := vb.cells.2
  have h4 := big4 ((w.alloc (.cells #[.bool f, .slice A n c] 24)).alloc (.cells #[.bool f', .slice A' n' c'] 24)) f f' A A' n c n' c'
  have HG := big_two _ A A' n c n' c' _ h4.1 h4.2
  rw [show (decide (80 < n) || decide (80 < n')) = false from by rw [decide_eq_false (by omega), decide_eq_false (by omega)]; rfl] at HG
  have HG := Lib.hid HG
  have HT := Lib.hid ht
  clear hx hy va vb hb hq h4 ht
  go_enter Tryd.func6, Tryd.ntmps6
  go_wp2_with (fail)
  generalize hW : ((w.alloc (.cells #[.bool f, .slice A n c] 24)).alloc (.cells #[.bool f', .slice A' n' c'] 24)).alloc (.cells #[.bool f, .slice A n c, .bool f', .slice A' n' c'] 24) = W at *
  clear hW k0 k1 k2 k3
  have HG := HG.out
  simp only [show ((w.alloc (.cells #[.bool f, .slice A n c] 24)).alloc (.cells #[.bool f', .slice A' n' c'] 24)).heap.size = w.heap.size + 1 + 1 from by simp] at HG
  refine HG.mono ?_
  rintro e w' ⟨rfl, rfl⟩
  clear HG
  clear h h'
  have kRA0 := RA.out.cells.1
  have kRA1 := RA.out.cells.2
  have kRB0 := RB.out.cells.1
  have kRB1 := RB.out.cells.2
  go_wp2_with (fail)
  refine (divMod_bad2 _ _ _ RA.out.2 H0.out RB.out.2 H1.out).mono ?_
  rintro e w_1 ⟨⟨yy, zz, rfl, j1, j2⟩, qq⟩
  obtain ⟨fVX, AVX, nVX, cVX, rfl, j1, -, -⟩ := j1.look
  obtain ⟨fVY, AVY, nVY, cVY, rfl, j2, -, -⟩ := j2.look
  obtain ⟨VX, VY, qa⟩ := two_vars j1 j2
  have VX := Lib.hid VX
  have VY := Lib.hid VY
  have qa := bstep qq qa
  clear kRA0 kRA1 kRB0 kRB1
  have HB := Lib.hid (bstep HB.out qa)
  have RA := Lib.hid (RA.out.step qa)
  have RB := Lib.hid (RB.out.step qa)
  clear qq qa j1 j2
  have kRA0 := RA.out.cells.1
  have kRA1 := RA.out.cells.2
  have kRB0 := RB.out.cells.1
  have kRB1 := RB.out.cells.2
  go_wp2_with (fail)
  generalize hW : (w_1.alloc (.cells #[.bool fVX, .slice AVX nVX cVX] 24)).alloc (.cells #[.bool fVY, .slice AVY nVY cVY] 24) = W_2 at *
  clear hW
  generalize w_1.heap.size = bVX at *
  refine (gcd_bad2 _ _ _ RA.out.2 H0.out RB.out.2 H1.out).mono ?_
  rintro e w_3 ⟨⟨yy, rfl, j1⟩, qq⟩
  obtain ⟨fVZ, AVZ, nVZ, cVZ, rfl, j1, -, -⟩ := j1.look
  have VZ := Lib.hid (IntVar.new j1)
  have qa := bstep qq (below_alloc w_3 (.cells #[.bool fVZ, .slice AVZ nVZ cVZ] 24))
  clear kRA0 kRA1 kRB0 kRB1
  have HB := Lib.hid (bstep HB.out qa)
  have RA := Lib.hid (RA.out.step qa)
  have RB := Lib.hid (RB.out.step qa)
  have VX := Lib.hid (VX.out.step qa)
  have VY := Lib.hid (VY.out.step qa)
  clear qq qa j1
  have kRA0 := RA.out.cells.1
  have kRA1 := RA.out.cells.2
  have kRB0 := RB.out.cells.1
  have kRB1 := RB.out.cells.2
  go_wp2_with (fail)
  generalize hW : (w_3.alloc (.cells #[.bool fVZ, .slice AVZ nVZ cVZ] 24)) = W_4 at *
  clear hW
  generalize w_3.heap.size = b_5 at *
  refine (rvalid_is _ _ RA.out.2).mono ?_
  rw [H0.out]
  rintro e w_6 ⟨rfl, qq⟩
  clear kRA0 kRA1 kRB0 kRB1
  have HB := Lib.hid (bstep HB.out qq)
  have RA := Lib.hid (RA.out.step qq)
  have RB := Lib.hid (RB.out.step qq)
  have VX := Lib.hid (VX.out.step qq)
  have VY := Lib.hid (VY.out.step qq)
  have VZ := Lib.hid (VZ.out.step qq)
  clear qq
  have kRA0 := RA.out.cells.1
  have kRA1 := RA.out.cells.2
  have kRB0 := RB.out.cells.1
  have kRB1 := RB.out.cells.2
  go_wp2_with (fail)
  refine (rvalid_is _ _ RB.out.2).mono ?_
  rw [H1.out]
  rintro e w_7 ⟨rfl, qq⟩
  clear kRA0 kRA1 kRB0 kRB1
  have HB := Lib.hid (bstep HB.out qq)
  have RA := Lib.hid (RA.out.step qq)
  have RB := Lib.hid (RB.out.step qq)
  have VX := Lib.hid (VX.out.step qq)
  have VY := Lib.hid (VY.out.step qq)
  have VZ := Lib.hid (VZ.out.step qq)
  clear qq
  have VN := Lib.hid (IntVar.new (intIs_zero w_7 _))
  have qa := below_alloc w_7 (.cells #[.bool false, .slice none 0 0] 24)
  have HB := Lib.hid (bstep HB.out qa)
  have RA := Lib.hid (RA.out.step qa)
  have RB := Lib.hid (RB.out.step qa)
  have VX := Lib.hid (VX.out.step qa)
  have VY := Lib.hid (VY.out.step qa)
  have VZ := Lib.hid (VZ.out.step qa)
  clear qa
  have kVX0 := VX.out.cells.1
  have kVX1 := VX.out.cells.2
  have kVY0 := VY.out.cells.1
  have kVY1 := VY.out.cells.2
  have kVZ0 := VZ.out.cells.1
  have kVZ1 := VZ.out.cells.2
  have kVN0 := VN.out.cells.1
  have kVN1 := VN.out.cells.2
  have kRA0 := RA.out.cells.1
  have kRA1 := RA.out.cells.2
  have kRB0 := RB.out.cells.1
  have kRB1 := RB.out.cells.2
  go_wp2_with (fail)
  generalize hW : (w_7.alloc (.cells #[.bool false, .slice none 0 0] 24)) = WN at *
  clear hW
  generalize w_7.heap.size = bN at *
  refine (same_law _ _ 2 2 0 0 _ VX.out.2 VN.out.2).mono ?_
  rw [sameB_self]
  rintro e w_8 ⟨rfl, qq⟩
  clear kVX0 kVX1 kVY0 kVY1 kVZ0 kVZ1 kVN0 kVN1 kRA0 kRA1 kRB0 kRB1
  have HB := Lib.hid (bstep HB.out qq)
  have RA := Lib.hid (RA.out.step qq)
  have RB := Lib.hid (RB.out.step qq)
  have VX := Lib.hid (VX.out.step qq)
  have VY := Lib.hid (VY.out.step qq)
  have VZ := Lib.hid (VZ.out.step qq)
  have VN := Lib.hid (VN.out.step qq)
  clear qq
  have kVX0 := VX.out.cells.1
  have kVX1 := VX.out.cells.2
  have kVY0 := VY.out.cells.1
  have kVY1 := VY.out.cells.2
  have kVZ0 := VZ.out.cells.1
  have kVZ1 := VZ.out.cells.2
  have kVN0 := VN.out.cells.1
  have kVN1 := VN.out.cells.2
  go_wp2_with (fail)
  refine (same_int _ _ 0 0 _ VY.out.2 VN.out.2).mono ?_
  rw [show decide ((0 : Int) = 0) = true from rfl]
  rintro e w_9 ⟨rfl, qq⟩
  clear kVX0 kVX1 kVY0 kVY1 kVZ0 kVZ1 kVN0 kVN1
  have HB := Lib.hid (bstep HB.out qq)
  have RA := Lib.hid (RA.out.step qq)
  have RB := Lib.hid (RB.out.step qq)
  have VX := Lib.hid (VX.out.step qq)
  have VY := Lib.hid (VY.out.step qq)
  have VZ := Lib.hid (VZ.out.step qq)
  have VN := Lib.hid (VN.out.step qq)
  clear qq
  have kVX0 := VX.out.cells.1
  have kVX1 := VX.out.cells.2
  have kVY0 := VY.out.cells.1
  have kVY1 := VY.out.cells.2
  have kVZ0 := VZ.out.cells.1
  have kVZ1 := VZ.out.cells.2
  have kVN0 := VN.out.cells.1
  have kVN1 := VN.out.cells.2
  go_wp2_with (fail)
  refine (same_law _ _ 2 2 0 0 _ VZ.out.2 VN.out.2).mono ?_
  rw [sameB_self]
  rintro e w_10 ⟨rfl, qq⟩
  clear kVX0 kVX1 kVY0 kVY1 kVZ0 kVZ1 kVN0 kVN1
  have HB := Lib.hid (bstep HB.out qq)
  have RA := Lib.hid (RA.out.step qq)
  have RB := Lib.hid (RB.out.step qq)
  have VX := Lib.hid (VX.out.step qq)
  have VY := Lib.hid (VY.out.step qq)
  have VZ := Lib.hid (VZ.out.step qq)
  have VN := Lib.hid (VN.out.step qq)
  clear qq
  have kVX0 := VX.out.cells.1
  have kVX1 := VX.out.cells.2
  have kVY0 := VY.out.cells.1
  have kVY1 := VY.out.cells.2
  have kVZ0 := VZ.out.cells.1
  have kVZ1 := VZ.out.cells.2
  have kVN0 := VN.out.cells.1
  have kVN1 := VN.out.cells.2
  go_wp2_with (fail)
  refine (known_any _ (HT.out.below HB.out)).mono ?_
  rintro e wk ⟨rfl, qk⟩
  have HQ := Lib.hid (bstep HB.out qk)
  clear qk
  clear kVX0 kVX1 kVY0 kVY1 kVZ0 kVZ1 kVN0 kVN1
  go_wp2_with (fail)
  go_ret
  exact ⟨rfl, HQ.out⟩
end Go.Proofs.YtnkklmbmodkogaaDoor

/-! Dd2 -/
namespace Go.Proofs.YtnkklmbmodkogaaDoor
open Go.RowKit

set_option maxRecDepth 100000 in
set_option maxHeartbeats 8000000 in
theorem div_zero (x y : Value) (a b : Int) (w : World) (hz : IntIs w w.heap.size x a) (hz' : IntIs w w.heap.size y b) (h0 : blen a.natAbs ≤ 64) (h1 : blen b.natAbs ≤ 64) (hb0 : b = 0) (ht : Tens w) :
    Calls Tryd.prog 6 #[x, y] w fun e w' => e = .returned (.bool true) ∧ Below w.heap.size w w' := by
  have hx := hz.raw
  have hy := hz'.raw
  obtain ⟨f, hf⟩ : ∃ f, f = decide (a < 0) := ⟨_, rfl⟩
  obtain ⟨n, hn⟩ : ∃ n, n = blen a.natAbs := ⟨_, rfl⟩
  obtain ⟨f', hf'⟩ : ∃ f, f = decide (b < 0) := ⟨_, rfl⟩
  obtain ⟨n', hn'⟩ : ∃ n, n = blen b.natAbs := ⟨_, rfl⟩
  rw [← hf, ← hn] at hx
  rw [← hf', ← hn'] at hy
  have HZA := Lib.hid hz
  have HZB := Lib.hid hz'
  have H0 := Lib.hid h0
  have H1 := Lib.hid h1
  have HVA := Lib.hid (show validB f n a.natAbs = true by rw [hf, hn]; exact valid_of h0)
  have HVB := Lib.hid (show validB f' n' b.natAbs = true by rw [hf', hn']; exact valid_of h1)
  have hn80 : n ≤ 80 := by omega
  have hn80' : n' ≤ 80 := by omega
  have hlen : ((n' : Int) == 0) = true := by rw [hn', hb0]; rfl
  have HB0 := Lib.hid hb0
  clear hz hz' hf hf' hn hn' h0 h1 hb0
  obtain ⟨A, c, rfl, hx⟩ := hx.look
  obtain ⟨A', c', rfl, hy⟩ := hy.look
  obtain ⟨va, vb, hb⟩ := two_raw hx hy
  have hq := below_alloc ((w.alloc (.cells #[.bool f, .slice A n c] 24)).alloc (.cells #[.bool f', .slice A' n' c'] 24)) (.cells #[.bool f, .slice A n c, .bool f', .slice A' n' c'] 24)
  have RA := Lib.hid (va.step hq)
  have RB := Lib.hid (vb.step hq)
  have HB := Lib.hid (bstep hb hq)
  have k0 := va.cells.1
  have k1 := va.cells.2
  have k2 := vb.cells.1
  have k3 := vb.cells.2
  have h4 := big4 ((w.alloc (.cells #[.bool f, .slice A n c] 24)).alloc (.cells #[.bool f', .slice A' n' c'] 24)) f f' A A' n c n' c'
  have HG := big_two _ A A' n c n' c' _ h4.1 h4.2
  rw [show (decide (80 < n) || decide (80 < n')) = false from by rw [decide_eq_false (by omega), decide_eq_false (by omega)]; rfl] at HG
  have HG := Lib.hid HG
  have HT := Lib.hid ht
  clear hx hy va vb hb hq h4 ht
  go_enter Tryd.func6, Tryd.ntmps6
  go_wp2_with (fail)
  generalize hW : ((w.alloc (.cells #[.bool f, .slice A n c] 24)).alloc (.cells #[.bool f', .slice A' n' c'] 24)).alloc (.cells #[.bool f, .slice A n c, .bool f', .slice A' n' c'] 24) = W at *
  clear hW k0 k1 k2 k3
  have HG := HG.out
  simp only [show ((w.alloc (.cells #[.bool f, .slice A n c] 24)).alloc (.cells #[.bool f', .slice A' n' c'] 24)).heap.size = w.heap.size + 1 + 1 from by simp] at HG
  refine HG.mono ?_
  rintro e w' ⟨rfl, rfl⟩
  clear HG
  have VA := Lib.hid (show IntVar W w.heap.size f A n c a from ⟨RA.out.1, HZA.out.step HB.out⟩)
  have VB := Lib.hid (show IntVar W (w.heap.size + 1) f' A' n' c' b from ⟨RB.out.1, HZB.out.step HB.out⟩)
  clear hn80 hn80' HZA HZB
  have kVA0 := VA.out.cells.1
  have kVA1 := VA.out.cells.2
  have kVB0 := VB.out.cells.1
  have kVB1 := VB.out.cells.2
  go_wp2_with (fail)
  refine (divMod_zero _ _ a _ VA.out.2 (by have h := VB.out.2; rw [HB0.out] at h; exact h) H0.out).mono ?_
  rintro e w_1 ⟨⟨yy, zz, rfl, j1, j2⟩, qq⟩
  obtain ⟨fVX, AVX, nVX, cVX, rfl, j1, -, -⟩ := j1.look
  obtain ⟨fVY, AVY, nVY, cVY, rfl, j2, -, -⟩ := j2.look
  obtain ⟨VX, VY, qa⟩ := two_vars j1 j2
  have VX := Lib.hid VX
  have VY := Lib.hid VY
  have qa := bstep qq qa
  clear kVA0 kVA1 kVB0 kVB1
  have HB := Lib.hid (bstep HB.out qa)
  have RA := Lib.hid (RA.out.step qa)
  have RB := Lib.hid (RB.out.step qa)
  have VA := Lib.hid (VA.out.step qa)
  have VB := Lib.hid (VB.out.step qa)
  clear qq qa j1 j2
  have kVA0 := VA.out.cells.1
  have kVA1 := VA.out.cells.2
  have kVB0 := VB.out.cells.1
  have kVB1 := VB.out.cells.2
  go_wp2_with (fail)
  generalize hW : (w_1.alloc (.cells #[.bool fVX, .slice AVX nVX cVX] 24)).alloc (.cells #[.bool fVY, .slice AVY nVY cVY] 24) = W_2 at *
  clear hW
  generalize w_1.heap.size = bVX at *
  refine (gcd_int _ _ a b _ VA.out.2 VB.out.2 H0.out H1.out).mono ?_
  rintro e w_3 ⟨⟨yy, rfl, j1⟩, qq⟩
  obtain ⟨fVZ, AVZ, nVZ, cVZ, rfl, j1, -, -⟩ := j1.look
  have VZ := Lib.hid (IntVar.new j1)
  have qa := bstep qq (below_alloc w_3 (.cells #[.bool fVZ, .slice AVZ nVZ cVZ] 24))
  clear kVA0 kVA1 kVB0 kVB1
  have HB := Lib.hid (bstep HB.out qa)
  have RA := Lib.hid (RA.out.step qa)
  have RB := Lib.hid (RB.out.step qa)
  have VA := Lib.hid (VA.out.step qa)
  have VB := Lib.hid (VB.out.step qa)
  have VX := Lib.hid (VX.out.step qa)
  have VY := Lib.hid (VY.out.step qa)
  clear qq qa j1
  have kVA0 := VA.out.cells.1
  have kVA1 := VA.out.cells.2
  have kVB0 := VB.out.cells.1
  have kVB1 := VB.out.cells.2
  go_wp2_with (fail)
  generalize hW : (w_3.alloc (.cells #[.bool fVZ, .slice AVZ nVZ cVZ] 24)) = W_4 at *
  clear hW
  generalize w_3.heap.size = b_5 at *
  refine (rvalid_is _ _ RA.out.2).mono ?_
  rw [HVA.out]
  rintro e w_6 ⟨rfl, qq⟩
  clear kVA0 kVA1 kVB0 kVB1
  have HB := Lib.hid (bstep HB.out qq)
  have RA := Lib.hid (RA.out.step qq)
  have RB := Lib.hid (RB.out.step qq)
  have VA := Lib.hid (VA.out.step qq)
  have VB := Lib.hid (VB.out.step qq)
  have VX := Lib.hid (VX.out.step qq)
  have VY := Lib.hid (VY.out.step qq)
  have VZ := Lib.hid (VZ.out.step qq)
  clear qq
  have kVA0 := VA.out.cells.1
  have kVA1 := VA.out.cells.2
  have kVB0 := VB.out.cells.1
  have kVB1 := VB.out.cells.2
  go_wp2_with (fail)
  refine (rvalid_is _ _ RB.out.2).mono ?_
  rw [HVB.out]
  rintro e w_7 ⟨rfl, qq⟩
  clear kVA0 kVA1 kVB0 kVB1
  have HB := Lib.hid (bstep HB.out qq)
  have RA := Lib.hid (RA.out.step qq)
  have RB := Lib.hid (RB.out.step qq)
  have VA := Lib.hid (VA.out.step qq)
  have VB := Lib.hid (VB.out.step qq)
  have VX := Lib.hid (VX.out.step qq)
  have VY := Lib.hid (VY.out.step qq)
  have VZ := Lib.hid (VZ.out.step qq)
  clear qq
  have kVA0 := VA.out.cells.1
  have kVA1 := VA.out.cells.2
  have kVB0 := VB.out.cells.1
  have kVB1 := VB.out.cells.2
  go_wp2_with (fail)
  clear RA RB HVA HVB
  clear kVA0 kVA1 kVB0 kVB1
  have a0 := VA.out.cells.1
  have a1 := VA.out.cells.2
  have b0 := VB.out.cells.1
  have b1 := VB.out.cells.2
  have z0 := VZ.out.cells.1
  have z1 := VZ.out.cells.2
  have LA := VA.out.1.lt
  have LB := VB.out.1.lt
  have LZ := VZ.out.1.lt
  have HCOM := Lib.hid (fun x y (w : World) hx hy => common_int x y a b w hx hy (Nat.lt_of_le_of_lt H0.out (by omega)) (Nat.lt_of_le_of_lt H1.out (by omega)))
  have VZ2 := Lib.hid VZ.out.2
  generalize ((Nat.gcd a.natAbs b.natAbs : Nat) : Int) = gz at HCOM VZ2
  have HSAM := Lib.hid (fun x y (w : World) hx hy => same_law x y 0 0 gz gz w hx hy)
  rw [sameB_self] at HSAM
  go_cut [64] (fun s wx => s = .bool false ∧ Below w_7.heap.size w_7 wx)
  case first =>
    go_region_held3 (fun w' => w'.cell? ⟨w.heap.size, 0, none⟩ = some (.bool f) ∧ w'.cell? ⟨w.heap.size, 1, none⟩ = some (.slice A n c) ∧ w'.cell? ⟨w.heap.size + 1, 0, none⟩ = some (.bool f') ∧ w'.cell? ⟨w.heap.size + 1, 1, none⟩ = some (.slice A' n' c') ∧ w'.cell? ⟨b_5, 0, none⟩ = some (.bool fVZ) ∧ w'.cell? ⟨b_5, 1, none⟩ = some (.slice AVZ nVZ cVZ))
      ((refine keep6 (W4 := w_7) ?_ a0 a1 b0 b1 z0 z1 LA LB LZ; (first | exact hb | exact below_drew0 _ | exact Below.refl _ _)))
      (first
        | (go_at_call 35; refine (HCOM.out _ _ _ ?_ ?_).mono ?_; (exact VA.out.2); (exact VB.out.2); rintro e w3 ⟨⟨xc, rfl, jc⟩, hq⟩; have hb := bstep (below_drew0 w_7) hq; clear hq)
        | (go_at_call 18; refine (HSAM.out _ _ _ ?_ ?_).mono ?_; (exact VZ2.out.step hb); (exact jc); rintro e w4 ⟨rfl, hq⟩; have hb2 := bstep hb hq; clear hq hb; have hb := hb2))
    all_goals
      go_wp2_with (fail)
      go_meet
      exact ⟨rfl, hb⟩
  case rest =>
  obtain ⟨rfl, qc⟩ := hcut
  clear a0 a1 b0 b1 z0 z1 LA LB LZ
  have HB := Lib.hid (bstep HB.out qc)
  have VA := Lib.hid (VA.out.step qc)
  have VB := Lib.hid (VB.out.step qc)
  have VX := Lib.hid (VX.out.step qc)
  have VY := Lib.hid (VY.out.step qc)
  have VZ := Lib.hid (VZ.out.step qc)
  clear qc
  have kVA0 := VA.out.cells.1
  have kVA1 := VA.out.cells.2
  have kVB0 := VB.out.cells.1
  have kVB1 := VB.out.cells.2
  have kVX0 := VX.out.cells.1
  have kVX1 := VX.out.cells.2
  have kVY0 := VY.out.cells.1
  have kVY1 := VY.out.cells.2
  go_wp2_with (fail)
  refine (same_law _ _ 2 2 0 0 _ VX.out.2 (intIs_zero _ _)).mono ?_
  rw [sameB_self]
  rintro e w_8 ⟨rfl, qq⟩
  clear kVA0 kVA1 kVB0 kVB1 kVX0 kVX1 kVY0 kVY1
  have HB := Lib.hid (bstep HB.out qq)
  have VA := Lib.hid (VA.out.step qq)
  have VB := Lib.hid (VB.out.step qq)
  have VX := Lib.hid (VX.out.step qq)
  have VY := Lib.hid (VY.out.step qq)
  have VZ := Lib.hid (VZ.out.step qq)
  clear qq
  have kVX0 := VX.out.cells.1
  have kVX1 := VX.out.cells.2
  have kVY0 := VY.out.cells.1
  have kVY1 := VY.out.cells.2
  go_wp2_with (fail)
  refine (same_int _ _ 0 0 _ VY.out.2 (intIs_zero _ _)).mono ?_
  rw [show decide ((0 : Int) = 0) = true from rfl]
  rintro e w_9 ⟨rfl, qq⟩
  clear kVX0 kVX1 kVY0 kVY1
  have HB := Lib.hid (bstep HB.out qq)
  have VA := Lib.hid (VA.out.step qq)
  have VB := Lib.hid (VB.out.step qq)
  have VX := Lib.hid (VX.out.step qq)
  have VY := Lib.hid (VY.out.step qq)
  have VZ := Lib.hid (VZ.out.step qq)
  clear qq
  have kVX0 := VX.out.cells.1
  have kVX1 := VX.out.cells.2
  have kVY0 := VY.out.cells.1
  have kVY1 := VY.out.cells.2
  go_wp2_with (fail)
  refine (known_any _ (HT.out.below HB.out)).mono ?_
  rintro e wk ⟨rfl, qk⟩
  have HQ := Lib.hid (bstep HB.out qk)
  clear qk
  clear kVX0 kVX1 kVY0 kVY1
  go_wp2_with (fail)
  go_ret
  exact ⟨rfl, HQ.out⟩
end Go.Proofs.YtnkklmbmodkogaaDoor

/-! Dd3 -/
namespace Go.Proofs.YtnkklmbmodkogaaDoor
open Go.RowKit

set_option maxRecDepth 100000 in
set_option maxHeartbeats 8000000 in
theorem div_main (x y : Value) (a b : Int) (w : World) (hz : IntIs w w.heap.size x a) (hz' : IntIs w w.heap.size y b) (h0 : blen a.natAbs ≤ 64) (h1 : blen b.natAbs ≤ 64) (hb0 : b ≠ 0) (ht : Tens w) :
    Calls Tryd.prog 6 #[x, y] w fun e w' => e = .returned (.bool true) ∧ Below w.heap.size w w' := by
  have hx := hz.raw
  have hy := hz'.raw
  obtain ⟨f, hf⟩ : ∃ f, f = decide (a < 0) := ⟨_, rfl⟩
  obtain ⟨n, hn⟩ : ∃ n, n = blen a.natAbs := ⟨_, rfl⟩
  obtain ⟨f', hf'⟩ : ∃ f, f = decide (b < 0) := ⟨_, rfl⟩
  obtain ⟨n', hn'⟩ : ∃ n, n = blen b.natAbs := ⟨_, rfl⟩
  rw [← hf, ← hn] at hx
  rw [← hf', ← hn'] at hy
  have HZA := Lib.hid hz
  have HZB := Lib.hid hz'
  have H0 := Lib.hid h0
  have H1 := Lib.hid h1
  have HVA := Lib.hid (show validB f n a.natAbs = true by rw [hf, hn]; exact valid_of h0)
  have HVB := Lib.hid (show validB f' n' b.natAbs = true by rw [hf', hn']; exact valid_of h1)
  have hn80 : n ≤ 80 := by omega
  have hn80' : n' ≤ 80 := by omega
  have hlen : ((n' : Int) == 0) = false := by have := blen_pos (v := b.natAbs) (by omega); simp; omega
  have HB0 := Lib.hid hb0
  clear hz hz' hf hf' hn hn' h0 h1 hb0
  obtain ⟨A, c, rfl, hx⟩ := hx.look
  obtain ⟨A', c', rfl, hy⟩ := hy.look
  obtain ⟨va, vb, hb⟩ := two_raw hx hy
  have hq := below_alloc ((w.alloc (.cells #[.bool f, .slice A n c] 24)).alloc (.cells #[.bool f', .slice A' n' c'] 24)) (.cells #[.bool f, .slice A n c, .bool f', .slice A' n' c'] 24)
  have RA := Lib.hid (va.step hq)
  have RB := Lib.hid (vb.step hq)
  have HB := Lib.hid (bstep hb hq)
  have k0 := va.cells.1
  have k1 := va.cells.2
  have k2 := vb.cells.1
  have k3 := vb.cells.2
  have h4 := big4 ((w.alloc (.cells #[.bool f, .slice A n c] 24)).alloc (.cells #[.bool f', .slice A' n' c'] 24)) f f' A A' n c n' c'
  have HG := big_two _ A A' n c n' c' _ h4.1 h4.2
  rw [show (decide (80 < n) || decide (80 < n')) = false from by rw [decide_eq_false (by omega), decide_eq_false (by omega)]; rfl] at HG
  have HG := Lib.hid HG
  have HT := Lib.hid ht
  clear hx hy va vb hb hq h4 ht
  go_enter Tryd.func6, Tryd.ntmps6
  go_wp2_with (fail)
  generalize hW : ((w.alloc (.cells #[.bool f, .slice A n c] 24)).alloc (.cells #[.bool f', .slice A' n' c'] 24)).alloc (.cells #[.bool f, .slice A n c, .bool f', .slice A' n' c'] 24) = W at *
  clear hW k0 k1 k2 k3
  have HG := HG.out
  simp only [show ((w.alloc (.cells #[.bool f, .slice A n c] 24)).alloc (.cells #[.bool f', .slice A' n' c'] 24)).heap.size = w.heap.size + 1 + 1 from by simp] at HG
  refine HG.mono ?_
  rintro e w' ⟨rfl, rfl⟩
  clear HG
  have VA := Lib.hid (show IntVar W w.heap.size f A n c a from ⟨RA.out.1, HZA.out.step HB.out⟩)
  have VB := Lib.hid (show IntVar W (w.heap.size + 1) f' A' n' c' b from ⟨RB.out.1, HZB.out.step HB.out⟩)
  clear hn80 hn80' HZA HZB
  have kVA0 := VA.out.cells.1
  have kVA1 := VA.out.cells.2
  have kVB0 := VB.out.cells.1
  have kVB1 := VB.out.cells.2
  go_wp2_with (fail)
  have HDM := Lib.hid (fun x y (w : World) hx hy => divMod_all x y a b w hx hy H0.out H1.out HB0.out)
  generalize hzq : sgn (decide (a < 0) != decide (b < 0)) (dmU (decide (a < 0) != decide (b < 0)) a.natAbs b.natAbs) = zq at *
  generalize hzr : sgn (decide (b < 0)) (dmR (decide (a < 0) != decide (b < 0)) a.natAbs b.natAbs) = zr at *
  have HQR := Lib.hid (And.intro hzq hzr)
  clear hzq hzr
  refine (HDM.out _ _ _ VA.out.2 VB.out.2).mono ?_
  rintro e w_1 ⟨⟨yy, zz, rfl, j1, j2⟩, qq⟩
  obtain ⟨fVX, AVX, nVX, cVX, rfl, j1, -, -⟩ := j1.look
  obtain ⟨fVY, AVY, nVY, cVY, rfl, j2, -, -⟩ := j2.look
  obtain ⟨VX, VY, qa⟩ := two_vars j1 j2
  have VX := Lib.hid VX
  have VY := Lib.hid VY
  have qa := bstep qq qa
  clear kVA0 kVA1 kVB0 kVB1
  have HB := Lib.hid (bstep HB.out qa)
  have RA := Lib.hid (RA.out.step qa)
  have RB := Lib.hid (RB.out.step qa)
  have VA := Lib.hid (VA.out.step qa)
  have VB := Lib.hid (VB.out.step qa)
  clear qq qa j1 j2
  have kVA0 := VA.out.cells.1
  have kVA1 := VA.out.cells.2
  have kVB0 := VB.out.cells.1
  have kVB1 := VB.out.cells.2
  go_wp2_with (fail)
  generalize hW : (w_1.alloc (.cells #[.bool fVX, .slice AVX nVX cVX] 24)).alloc (.cells #[.bool fVY, .slice AVY nVY cVY] 24) = W_2 at *
  clear hW
  generalize w_1.heap.size = bVX at *
  refine (gcd_int _ _ a b _ VA.out.2 VB.out.2 H0.out H1.out).mono ?_
  rintro e w_3 ⟨⟨yy, rfl, j1⟩, qq⟩
  obtain ⟨fVZ, AVZ, nVZ, cVZ, rfl, j1, -, -⟩ := j1.look
  have VZ := Lib.hid (IntVar.new j1)
  have qa := bstep qq (below_alloc w_3 (.cells #[.bool fVZ, .slice AVZ nVZ cVZ] 24))
  clear kVA0 kVA1 kVB0 kVB1
  have HB := Lib.hid (bstep HB.out qa)
  have RA := Lib.hid (RA.out.step qa)
  have RB := Lib.hid (RB.out.step qa)
  have VA := Lib.hid (VA.out.step qa)
  have VB := Lib.hid (VB.out.step qa)
  have VX := Lib.hid (VX.out.step qa)
  have VY := Lib.hid (VY.out.step qa)
  clear qq qa j1
  have kVA0 := VA.out.cells.1
  have kVA1 := VA.out.cells.2
  have kVB0 := VB.out.cells.1
  have kVB1 := VB.out.cells.2
  go_wp2_with (fail)
  generalize hW : (w_3.alloc (.cells #[.bool fVZ, .slice AVZ nVZ cVZ] 24)) = W_4 at *
  clear hW
  generalize w_3.heap.size = b_5 at *
  refine (rvalid_is _ _ RA.out.2).mono ?_
  rw [HVA.out]
  rintro e w_6 ⟨rfl, qq⟩
  clear kVA0 kVA1 kVB0 kVB1
  have HB := Lib.hid (bstep HB.out qq)
  have RA := Lib.hid (RA.out.step qq)
  have RB := Lib.hid (RB.out.step qq)
  have VA := Lib.hid (VA.out.step qq)
  have VB := Lib.hid (VB.out.step qq)
  have VX := Lib.hid (VX.out.step qq)
  have VY := Lib.hid (VY.out.step qq)
  have VZ := Lib.hid (VZ.out.step qq)
  clear qq
  have kVA0 := VA.out.cells.1
  have kVA1 := VA.out.cells.2
  have kVB0 := VB.out.cells.1
  have kVB1 := VB.out.cells.2
  go_wp2_with (fail)
  refine (rvalid_is _ _ RB.out.2).mono ?_
  rw [HVB.out]
  rintro e w_7 ⟨rfl, qq⟩
  clear kVA0 kVA1 kVB0 kVB1
  have HB := Lib.hid (bstep HB.out qq)
  have RA := Lib.hid (RA.out.step qq)
  have RB := Lib.hid (RB.out.step qq)
  have VA := Lib.hid (VA.out.step qq)
  have VB := Lib.hid (VB.out.step qq)
  have VX := Lib.hid (VX.out.step qq)
  have VY := Lib.hid (VY.out.step qq)
  have VZ := Lib.hid (VZ.out.step qq)
  clear qq
  have kVA0 := VA.out.cells.1
  have kVA1 := VA.out.cells.2
  have kVB0 := VB.out.cells.1
  have kVB1 := VB.out.cells.2
  go_wp2_with (fail)
  clear RA RB HVA HVB
  clear kVA0 kVA1 kVB0 kVB1
  have a0 := VA.out.cells.1
  have a1 := VA.out.cells.2
  have b0 := VB.out.cells.1
  have b1 := VB.out.cells.2
  have z0 := VZ.out.cells.1
  have z1 := VZ.out.cells.2
  have LA := VA.out.1.lt
  have LB := VB.out.1.lt
  have LZ := VZ.out.1.lt
  have HCOM := Lib.hid (fun x y (w : World) hx hy => common_int x y a b w hx hy (Nat.lt_of_le_of_lt H0.out (by omega)) (Nat.lt_of_le_of_lt H1.out (by omega)))
  have VZ2 := Lib.hid VZ.out.2
  generalize ((Nat.gcd a.natAbs b.natAbs : Nat) : Int) = gz at HCOM VZ2
  have HSAM := Lib.hid (fun x y (w : World) hx hy => same_law x y 0 0 gz gz w hx hy)
  rw [sameB_self] at HSAM
  go_cut [64] (fun s wx => s = .bool false ∧ Below w_7.heap.size w_7 wx)
  case first =>
    go_region_held3 (fun w' => w'.cell? ⟨w.heap.size, 0, none⟩ = some (.bool f) ∧ w'.cell? ⟨w.heap.size, 1, none⟩ = some (.slice A n c) ∧ w'.cell? ⟨w.heap.size + 1, 0, none⟩ = some (.bool f') ∧ w'.cell? ⟨w.heap.size + 1, 1, none⟩ = some (.slice A' n' c') ∧ w'.cell? ⟨b_5, 0, none⟩ = some (.bool fVZ) ∧ w'.cell? ⟨b_5, 1, none⟩ = some (.slice AVZ nVZ cVZ))
      ((refine keep6 (W4 := w_7) ?_ a0 a1 b0 b1 z0 z1 LA LB LZ; (first | exact hb | exact below_drew0 _ | exact Below.refl _ _)))
      (first
        | (go_at_call 35; refine (HCOM.out _ _ _ ?_ ?_).mono ?_; (exact VA.out.2); (exact VB.out.2); rintro e w3 ⟨⟨xc, rfl, jc⟩, hq⟩; have hb := bstep (below_drew0 w_7) hq; clear hq)
        | (go_at_call 18; refine (HSAM.out _ _ _ ?_ ?_).mono ?_; (exact VZ2.out.step hb); (exact jc); rintro e w4 ⟨rfl, hq⟩; have hb2 := bstep hb hq; clear hq hb; have hb := hb2))
    all_goals
      go_wp2_with (fail)
      go_meet
      exact ⟨rfl, hb⟩
  case rest =>
  obtain ⟨rfl, qc⟩ := hcut
  clear a0 a1 b0 b1 z0 z1 LA LB LZ
  have HB := Lib.hid (bstep HB.out qc)
  have VA := Lib.hid (VA.out.step qc)
  have VB := Lib.hid (VB.out.step qc)
  have VX := Lib.hid (VX.out.step qc)
  have VY := Lib.hid (VY.out.step qc)
  have VZ := Lib.hid (VZ.out.step qc)
  clear qc
  have kVA0 := VA.out.cells.1
  have kVA1 := VA.out.cells.2
  have kVB0 := VB.out.cells.1
  have kVB1 := VB.out.cells.2
  have kVX0 := VX.out.cells.1
  have kVX1 := VX.out.cells.2
  have kVY0 := VY.out.cells.1
  have kVY1 := VY.out.cells.2
  go_wp2_with (fail)
  have HRD := Lib.hid (fun x y (w : World) hx hy => refDivide_int x y a b w hx hy (Nat.lt_of_le_of_lt H0.out (by omega)) (Nat.lt_of_le_of_lt H1.out (by omega)) HB0.out)
  rw [HQR.out.1, HQR.out.2] at HRD
  refine (HRD.out _ _ _ VA.out.2 VB.out.2).mono ?_
  rintro e w_8 ⟨⟨yy, zz, rfl, j1, j2⟩, qq⟩
  obtain ⟨fVU, AVU, nVU, cVU, rfl, j1, -, -⟩ := j1.look
  obtain ⟨fVV, AVV, nVV, cVV, rfl, j2, -, -⟩ := j2.look
  obtain ⟨VU, VV, qa⟩ := two_vars j1 j2
  have VU := Lib.hid VU
  have VV := Lib.hid VV
  have qa := bstep qq qa
  clear kVA0 kVA1 kVB0 kVB1 kVX0 kVX1 kVY0 kVY1
  have HB := Lib.hid (bstep HB.out qa)
  have VA := Lib.hid (VA.out.step qa)
  have VB := Lib.hid (VB.out.step qa)
  have VX := Lib.hid (VX.out.step qa)
  have VY := Lib.hid (VY.out.step qa)
  have VZ := Lib.hid (VZ.out.step qa)
  clear qq qa j1 j2
  have kVX0 := VX.out.cells.1
  have kVX1 := VX.out.cells.2
  have kVY0 := VY.out.cells.1
  have kVY1 := VY.out.cells.2
  go_wp2_with (fail)
  generalize hW : (w_8.alloc (.cells #[.bool fVU, .slice AVU nVU cVU] 24)).alloc (.cells #[.bool fVV, .slice AVV nVV cVV] 24) = W_9 at *
  clear hW
  generalize w_8.heap.size = bVU at *
  clear kVX0 kVX1 kVY0 kVY1
  have kVX0 := VX.out.cells.1
  have kVX1 := VX.out.cells.2
  have kVY0 := VY.out.cells.1
  have kVY1 := VY.out.cells.2
  have kVU0 := VU.out.cells.1
  have kVU1 := VU.out.cells.2
  have kVV0 := VV.out.cells.1
  have kVV1 := VV.out.cells.2
  go_wp2_with (fail)
  refine (same_law _ _ 0 0 _ _ _ VX.out.2 VU.out.2).mono ?_
  rw [sameB_self]
  rintro e w_10 ⟨rfl, qq⟩
  clear kVX0 kVX1 kVY0 kVY1 kVU0 kVU1 kVV0 kVV1
  have HB := Lib.hid (bstep HB.out qq)
  have VA := Lib.hid (VA.out.step qq)
  have VB := Lib.hid (VB.out.step qq)
  have VX := Lib.hid (VX.out.step qq)
  have VY := Lib.hid (VY.out.step qq)
  have VZ := Lib.hid (VZ.out.step qq)
  have VU := Lib.hid (VU.out.step qq)
  have VV := Lib.hid (VV.out.step qq)
  clear qq
  have kVX0 := VX.out.cells.1
  have kVX1 := VX.out.cells.2
  have kVY0 := VY.out.cells.1
  have kVY1 := VY.out.cells.2
  have kVU0 := VU.out.cells.1
  have kVU1 := VU.out.cells.2
  have kVV0 := VV.out.cells.1
  have kVV1 := VV.out.cells.2
  go_wp2_with (fail)
  refine (same_law _ _ 0 0 _ _ _ VY.out.2 VV.out.2).mono ?_
  rw [sameB_self]
  rintro e w_11 ⟨rfl, qq⟩
  clear kVX0 kVX1 kVY0 kVY1 kVU0 kVU1 kVV0 kVV1
  have HB := Lib.hid (bstep HB.out qq)
  have VA := Lib.hid (VA.out.step qq)
  have VB := Lib.hid (VB.out.step qq)
  have VX := Lib.hid (VX.out.step qq)
  have VY := Lib.hid (VY.out.step qq)
  have VZ := Lib.hid (VZ.out.step qq)
  have VU := Lib.hid (VU.out.step qq)
  have VV := Lib.hid (VV.out.step qq)
  clear qq
  have kVX0 := VX.out.cells.1
  have kVX1 := VX.out.cells.2
  have kVY0 := VY.out.cells.1
  have kVY1 := VY.out.cells.2
  have kVU0 := VU.out.cells.1
  have kVU1 := VU.out.cells.2
  have kVV0 := VV.out.cells.1
  have kVV1 := VV.out.cells.2
  go_wp2_with (fail)
  refine (known_any _ (HT.out.below HB.out)).mono ?_
  rintro e wk ⟨rfl, qk⟩
  have HQ := Lib.hid (bstep HB.out qk)
  clear qk
  clear kVX0 kVX1 kVY0 kVY1 kVU0 kVU1 kVV0 kVV1
  go_wp2_with (fail)
  go_ret
  exact ⟨rfl, HQ.out⟩
end Go.Proofs.YtnkklmbmodkogaaDoor

/-! Dd4 -/
namespace Go.Proofs.YtnkklmbmodkogaaDoor
open Go.RowKit

theorem div_any {f f' : Bool} {n v n' v' : Nat} (x y : Value) (w : World) (hx : RawIs w w.heap.size x f n v) (hy : RawIs w w.heap.size y f' n' v') (hv : v < 256 ^ n) (hv' : v' < 256 ^ n') (ht : Tens w) :
    Calls Tryd.prog 6 #[x, y] w fun e w' => e = .returned (.bool true) ∧ Below w.heap.size w w' := by
  by_cases hn : 80 < n ∨ 80 < n'
  · exact div_big x y w hx hy hn ht
  · cases hb : validB f n v
    · exact div_bad1 x y w hx hy hb (by omega) (by omega) ht
    · cases hb' : validB f' n' v'
      · exact div_bad2 x y w hx hy hb hb' (by omega) (by omega) ht
      · obtain ⟨a, ha, ha64⟩ := hx.int hv hb
        obtain ⟨b, hb, hb64⟩ := hy.int hv' hb'
        by_cases h0 : b = 0
        · exact div_zero x y a b w ha hb ha64 hb64 h0 ht
        · exact div_main x y a b w ha hb ha64 hb64 h0 ht
end Go.Proofs.YtnkklmbmodkogaaDoor
