/- The statement NumberSums: the walk. -/
import Derived.Test.YtkofhjjfngnmmaaDoorG11
import Derived.Test.YtkofhjjfngnmmaaDoorG12
import Derived.Deep.DeepCutAuto
import Derived.Deep.RegionHeld3
namespace Go.Proofs.YtkofhjjfngnmmaaDoor
open Go.RowKit

theorem limited_fit (x : Value) (z : Int) (w : World) (hx : IntIs w w.heap.size x z) : Calls Tryd.prog 30 #[x] w (RetIntE w (fitZ z) (fitE z)) := by
  have := limited_int x z w hx
  have e1 : (if blen z.natAbs ≤ 64 then z else 0) = fitZ z := by unfold fitZ; by_cases h : blen z.natAbs ≤ 64; (rw [if_pos h, if_pos (fits_blen.2 h)]); (rw [if_neg h, if_neg (fun h' => h (fits_blen.1 h'))])
  have e2 : (if blen z.natAbs ≤ 64 then (0 : Int) else 7) = fitE z := by unfold fitE; by_cases h : blen z.natAbs ≤ 64; (rw [if_pos h, if_pos (fits_blen.2 h)]); (rw [if_neg h, if_neg (fun h' => h (fits_blen.1 h'))])
  rwa [e1, e2] at this
theorem mul_fit (x y : Value) (a b : Int) (w : World) (hx : IntIs w w.heap.size x a) (hy : IntIs w w.heap.size y b) (ha : blen a.natAbs ≤ 64) (hb : blen b.natAbs ≤ 64) :
    Calls Tryd.prog 28 #[x, y] w (RetIntE w (fitZ (a * b)) (fitE (a * b))) := by
  have := mul_int x y a b w hx hy ha hb
  unfold mulZ mulE at this
  unfold fitZ fitE
  rwa [Int.natAbs_mul]
theorem sameB_self (e z : Int) : sameB e e z z = true := by simp [sameB]
theorem keep4b {W4 X : World} {g0 g1 : Nat} {t0 t1 t2 t3 : Value} (h : Below W4.heap.size W4 X) (c0 : W4.cell? ⟨g0, 0, none⟩ = some t0) (c1 : W4.cell? ⟨g0, 1, none⟩ = some t1) (c2 : W4.cell? ⟨g1, 0, none⟩ = some t2) (c3 : W4.cell? ⟨g1, 1, none⟩ = some t3) (h0 : g0 < W4.heap.size) (h1 : g1 < W4.heap.size) :
    X.cell? ⟨g0, 0, none⟩ = some t0 ∧ X.cell? ⟨g0, 1, none⟩ = some t1 ∧ X.cell? ⟨g1, 0, none⟩ = some t2 ∧ X.cell? ⟨g1, 1, none⟩ = some t3 :=
  ⟨kept_cell h c0 h0, kept_cell h c1 h0, kept_cell h c2 h1, kept_cell h c3 h1⟩
theorem var_al {X Y : World} (hq : Below (X.alloc (.cells #[.bool false, .slice none 0 0] 24)).heap.size (X.alloc (.cells #[.bool false, .slice none 0 0] 24)) Y) : Var Y X.heap.size 24 #[.bool false, .slice none 0 0] :=
  (Var.new X 24 #[.bool false, .slice none 0 0]).below hq (by simp)
theorem var_ald {X Y : World} (hq : Below (X.alloc (.cells #[.bool false, .slice none 0 0] 24)).drew.heap.size (X.alloc (.cells #[.bool false, .slice none 0 0] 24)).drew Y) : Var Y X.heap.size 24 #[.bool false, .slice none 0 0] :=
  (show Var (X.alloc (.cells #[.bool false, .slice none 0 0] 24)).drew X.heap.size 24 #[.bool false, .slice none 0 0] from Var.new X 24 #[.bool false, .slice none 0 0]).below hq (by simp)
theorem intVar_set {w : World} {b : Nat} {g : Bool} {D : Option Addr} {m d : Nat} {z' : Int} (h : Var w b 24 #[.bool false, .slice none 0 0]) (hi : IntIs w w.heap.size (.agg #[.bool g, .slice D m d]) z') :
    IntVar ((w.setCell ⟨b, 0, none⟩ (.bool g)).setCell ⟨b, 1, none⟩ (.slice D m d)) b g D m d z' := by
  refine ⟨?_, put_int hi h⟩
  have := (h.set_ 0 (.bool g)).set_ 1 (.slice D m d)
  simpa using this
theorem below_set2 {B : Nat} {v w : World} {b : Nat} {u u' : Value} (h : Below B v w) (hb : B ≤ b) : Below B v ((w.setCell ⟨b, 0, none⟩ u).setCell ⟨b, 1, none⟩ u') := (h.setCell hb _).setCell hb _
/-- A variable that holds a value of type Int, valid or not. -/
def RawVar (w : World) (b : Nat) (f : Bool) (A : Option Addr) (n c v : Nat) : Prop := Var w b 24 #[.bool f, .slice A n c] ∧ RawIs w w.heap.size (.agg #[.bool f, .slice A n c]) f n v
theorem RawVar.step {w w' : World} {b : Nat} {f : Bool} {A : Option Addr} {n c v : Nat} (h : RawVar w b f A n c v) (hb : Below w.heap.size w w') : RawVar w' b f A n c v := ⟨h.1.below hb h.1.lt, h.2.step hb⟩
theorem RawVar.cells {w : World} {b : Nat} {f : Bool} {A : Option Addr} {n c v : Nat} (h : RawVar w b f A n c v) : w.cell? ⟨b, 0, none⟩ = some (.bool f) ∧ w.cell? ⟨b, 1, none⟩ = some (.slice A n c) :=
  ⟨by have := h.1.cell 0; simpa using this, by have := h.1.cell 1; simpa using this⟩
/-- The two arguments' variables, and the block of their copies. -/
theorem two_raw {w : World} {f f' : Bool} {A A' : Option Addr} {n c v n' c' v' : Nat} (h : RawIs w w.heap.size (.agg #[.bool f, .slice A n c]) f n v) (h' : RawIs w w.heap.size (.agg #[.bool f', .slice A' n' c']) f' n' v') :
    RawVar ((w.alloc (.cells #[.bool f, .slice A n c] 24)).alloc (.cells #[.bool f', .slice A' n' c'] 24)) w.heap.size f A n c v ∧ RawVar ((w.alloc (.cells #[.bool f, .slice A n c] 24)).alloc (.cells #[.bool f', .slice A' n' c'] 24)) (w.heap.size + 1) f' A' n' c' v' ∧
    Below w.heap.size w ((w.alloc (.cells #[.bool f, .slice A n c] 24)).alloc (.cells #[.bool f', .slice A' n' c'] 24)) := by
  obtain ⟨v0, v1, hb, -⟩ := boxes2 w 24 24 #[.bool f, .slice A n c] #[.bool f', .slice A' n' c']
  exact ⟨⟨v0, h.step hb⟩, ⟨v1, h'.step hb⟩, hb⟩
theorem big4 (w : World) (f f' : Bool) (A A' : Option Addr) (n c n' c' : Nat) :
    (w.alloc (.cells #[.bool f, .slice A n c, .bool f', .slice A' n' c'] 24)).cell? ⟨w.heap.size, 1, none⟩ = some (.slice A n c) ∧ (w.alloc (.cells #[.bool f, .slice A n c, .bool f', .slice A' n' c'] 24)).cell? ⟨w.heap.size, 3, none⟩ = some (.slice A' n' c') := by
  have h := Var.new w 24 #[.bool f, .slice A n c, .bool f', .slice A' n' c']
  exact ⟨(h.cell 1).trans rfl, (h.cell 3).trans rfl⟩

set_option maxRecDepth 100000 in
set_option maxHeartbeats 8000000 in
theorem sums_big {f f' : Bool} {n v n' v' : Nat} (x y : Value) (w : World) (hx : RawIs w w.heap.size x f n v) (hy : RawIs w w.heap.size y f' n' v') (h : 80 < n ∨ 80 < n') (ht : Tens w) :
    Calls Tryd.prog 5 #[x, y] w fun e w' => e = .returned (.bool true) ∧ Below w.heap.size w w' := by
  obtain ⟨A, c, rfl, hx⟩ := hx.look
  obtain ⟨A', c', rfl, hy⟩ := hy.look
  obtain ⟨va, vb, hb⟩ := two_raw hx hy
  have hq := below_alloc ((w.alloc (.cells #[.bool f, .slice A n c] 24)).alloc (.cells #[.bool f', .slice A' n' c'] 24)) (.cells #[.bool f, .slice A n c, .bool f', .slice A' n' c'] 24)
  have RA := Lib.hid (va.step hq)
  have RB := Lib.hid (vb.step hq)
  have HB := Lib.hid (bstep hb hq)
  have k0 := va.cells.1
  have k1 := va.cells.2
  have k2 := vb.cells.1
  have k3 := vb.cells.2
  have h4 := big4 ((w.alloc (.cells #[.bool f, .slice A n c] 24)).alloc (.cells #[.bool f', .slice A' n' c'] 24)) f f' A A' n c n' c'
  have HG := big_two _ A A' n c n' c' _ h4.1 h4.2
  rw [show (decide (80 < n) || decide (80 < n')) = true from by rcases h with h | h <;> simp [h]] at HG
  have HG := Lib.hid HG
  have HT := Lib.hid ht
  clear hx hy va vb hb hq h4 ht
  go_enter Tryd.func5, Tryd.ntmps5
  go_wp2_with (fail)
  generalize hW : ((w.alloc (.cells #[.bool f, .slice A n c] 24)).alloc (.cells #[.bool f', .slice A' n' c'] 24)).alloc (.cells #[.bool f, .slice A n c, .bool f', .slice A' n' c'] 24) = W at *
  clear hW k0 k1 k2 k3
  have HG := HG.out
  simp only [show ((w.alloc (.cells #[.bool f, .slice A n c] 24)).alloc (.cells #[.bool f', .slice A' n' c'] 24)).heap.size = w.heap.size + 1 + 1 from by simp] at HG
  refine HG.mono ?_
  rintro e w' ⟨rfl, rfl⟩
  clear HG
  clear h
  go_wp2_with (fail)
  refine (known_any _ (HT.out.below HB.out)).mono ?_
  rintro e wk ⟨rfl, qk⟩
  have HQ := Lib.hid (bstep HB.out qk)
  clear qk
  go_wp2_with (fail)
  go_ret
  exact ⟨rfl, HQ.out⟩
set_option maxRecDepth 100000 in
set_option maxHeartbeats 8000000 in
theorem sums_bad1 {f f' : Bool} {n v n' v' : Nat} (x y : Value) (w : World) (hx : RawIs w w.heap.size x f n v) (hy : RawIs w w.heap.size y f' n' v') (h0 : validB f n v = false) (h : n ≤ 80) (h' : n' ≤ 80) (ht : Tens w) :
    Calls Tryd.prog 5 #[x, y] w fun e w' => e = .returned (.bool true) ∧ Below w.heap.size w w' := by
  have H0 := Lib.hid h0
  clear h0
  obtain ⟨A, c, rfl, hx⟩ := hx.look
  obtain ⟨A', c', rfl, hy⟩ := hy.look
  obtain ⟨va, vb, hb⟩ := two_raw hx hy
  have hq := below_alloc ((w.alloc (.cells #[.bool f, .slice A n c] 24)).alloc (.cells #[.bool f', .slice A' n' c'] 24)) (.cells #[.bool f, .slice A n c, .bool f', .slice A' n' c'] 24)
  have RA := Lib.hid (va.step hq)
  have RB := Lib.hid (vb.step hq)
  have HB := Lib.hid (bstep hb hq)
  have k0 := va.cells.1
  have k1 := va.cells.2
  have k2 := vb.cells.1
  have k3 := vb.cells.2
  have h4 := big4 ((w.alloc (.cells #[.bool f, .slice A n c] 24)).alloc (.cells #[.bool f', .slice A' n' c'] 24)) f f' A A' n c n' c'
  have HG := big_two _ A A' n c n' c' _ h4.1 h4.2
  rw [show (decide (80 < n) || decide (80 < n')) = false from by rw [decide_eq_false (by omega), decide_eq_false (by omega)]; rfl] at HG
  have HG := Lib.hid HG
  have HT := Lib.hid ht
  clear hx hy va vb hb hq h4 ht
  go_enter Tryd.func5, Tryd.ntmps5
  go_wp2_with (fail)
  generalize hW : ((w.alloc (.cells #[.bool f, .slice A n c] 24)).alloc (.cells #[.bool f', .slice A' n' c'] 24)).alloc (.cells #[.bool f, .slice A n c, .bool f', .slice A' n' c'] 24) = W at *
  clear hW k0 k1 k2 k3
  have HG := HG.out
  simp only [show ((w.alloc (.cells #[.bool f, .slice A n c] 24)).alloc (.cells #[.bool f', .slice A' n' c'] 24)).heap.size = w.heap.size + 1 + 1 from by simp] at HG
  refine HG.mono ?_
  rintro e w' ⟨rfl, rfl⟩
  clear HG
  clear h h'
  have kRA0 := RA.out.cells.1
  have kRA1 := RA.out.cells.2
  have kRB0 := RB.out.cells.1
  have kRB1 := RB.out.cells.2
  go_wp2_with (fail)
  refine (add_bad1 _ _ _ RA.out.2 H0.out RB.out.2).mono ?_
  rintro e w_1 ⟨⟨yy, rfl, j1⟩, qq⟩
  obtain ⟨fVX, AVX, nVX, cVX, rfl, j1, -, -⟩ := j1.look
  have VX := Lib.hid (IntVar.new j1)
  have qa := bstep qq (below_alloc w_1 (.cells #[.bool fVX, .slice AVX nVX cVX] 24))
  clear kRA0 kRA1 kRB0 kRB1
  have HB := Lib.hid (bstep HB.out qa)
  have RA := Lib.hid (RA.out.step qa)
  have RB := Lib.hid (RB.out.step qa)
  clear qq qa j1
  have kRA0 := RA.out.cells.1
  have kRA1 := RA.out.cells.2
  have kRB0 := RB.out.cells.1
  have kRB1 := RB.out.cells.2
  go_wp2_with (fail)
  generalize hW : (w_1.alloc (.cells #[.bool fVX, .slice AVX nVX cVX] 24)) = W_2 at *
  clear hW
  generalize w_1.heap.size = b_3 at *
  refine (sub_bad1 _ _ _ RA.out.2 H0.out RB.out.2).mono ?_
  rintro e w_4 ⟨⟨yy, rfl, j1⟩, qq⟩
  obtain ⟨fVY, AVY, nVY, cVY, rfl, j1, -, -⟩ := j1.look
  have VY := Lib.hid (IntVar.new j1)
  have qa := bstep qq (below_alloc w_4 (.cells #[.bool fVY, .slice AVY nVY cVY] 24))
  clear kRA0 kRA1 kRB0 kRB1
  have HB := Lib.hid (bstep HB.out qa)
  have RA := Lib.hid (RA.out.step qa)
  have RB := Lib.hid (RB.out.step qa)
  have VX := Lib.hid (VX.out.step qa)
  clear qq qa j1
  have kRA0 := RA.out.cells.1
  have kRA1 := RA.out.cells.2
  have kRB0 := RB.out.cells.1
  have kRB1 := RB.out.cells.2
  go_wp2_with (fail)
  generalize hW : (w_4.alloc (.cells #[.bool fVY, .slice AVY nVY cVY] 24)) = W_5 at *
  clear hW
  generalize w_4.heap.size = b_6 at *
  refine (mul_bad1 _ _ _ RA.out.2 H0.out RB.out.2).mono ?_
  rintro e w_7 ⟨⟨yy, rfl, j1⟩, qq⟩
  obtain ⟨fVZ, AVZ, nVZ, cVZ, rfl, j1, -, -⟩ := j1.look
  have VZ := Lib.hid (IntVar.new j1)
  have qa := bstep qq (below_alloc w_7 (.cells #[.bool fVZ, .slice AVZ nVZ cVZ] 24))
  clear kRA0 kRA1 kRB0 kRB1
  have HB := Lib.hid (bstep HB.out qa)
  have RA := Lib.hid (RA.out.step qa)
  have RB := Lib.hid (RB.out.step qa)
  have VX := Lib.hid (VX.out.step qa)
  have VY := Lib.hid (VY.out.step qa)
  clear qq qa j1
  have kRA0 := RA.out.cells.1
  have kRA1 := RA.out.cells.2
  have kRB0 := RB.out.cells.1
  have kRB1 := RB.out.cells.2
  go_wp2_with (fail)
  generalize hW : (w_7.alloc (.cells #[.bool fVZ, .slice AVZ nVZ cVZ] 24)) = W_8 at *
  clear hW
  generalize w_7.heap.size = b_9 at *
  refine (cmp_bad1 _ _ _ RA.out.2 H0.out RB.out.2).mono ?_
  rintro e w_10 ⟨rfl, qq⟩
  clear kRA0 kRA1 kRB0 kRB1
  have HB := Lib.hid (bstep HB.out qq)
  have RA := Lib.hid (RA.out.step qq)
  have RB := Lib.hid (RB.out.step qq)
  have VX := Lib.hid (VX.out.step qq)
  have VY := Lib.hid (VY.out.step qq)
  have VZ := Lib.hid (VZ.out.step qq)
  clear qq
  have kRA0 := RA.out.cells.1
  have kRA1 := RA.out.cells.2
  have kRB0 := RB.out.cells.1
  have kRB1 := RB.out.cells.2
  go_wp2_with (fail)
  refine (rvalid_is _ _ RA.out.2).mono ?_
  rw [H0.out]
  rintro e w_11 ⟨rfl, qq⟩
  clear kRA0 kRA1 kRB0 kRB1
  have HB := Lib.hid (bstep HB.out qq)
  have RA := Lib.hid (RA.out.step qq)
  have RB := Lib.hid (RB.out.step qq)
  have VX := Lib.hid (VX.out.step qq)
  have VY := Lib.hid (VY.out.step qq)
  have VZ := Lib.hid (VZ.out.step qq)
  clear qq
  have VN := Lib.hid (IntVar.new (intIs_zero w_11 _))
  have qa := below_alloc w_11 (.cells #[.bool false, .slice none 0 0] 24)
  have HB := Lib.hid (bstep HB.out qa)
  have RA := Lib.hid (RA.out.step qa)
  have RB := Lib.hid (RB.out.step qa)
  have VX := Lib.hid (VX.out.step qa)
  have VY := Lib.hid (VY.out.step qa)
  have VZ := Lib.hid (VZ.out.step qa)
  clear qa
  have kVX0 := VX.out.cells.1
  have kVX1 := VX.out.cells.2
  have kVY0 := VY.out.cells.1
  have kVY1 := VY.out.cells.2
  have kVZ0 := VZ.out.cells.1
  have kVZ1 := VZ.out.cells.2
  have kVN0 := VN.out.cells.1
  have kVN1 := VN.out.cells.2
  have kRA0 := RA.out.cells.1
  have kRA1 := RA.out.cells.2
  have kRB0 := RB.out.cells.1
  have kRB1 := RB.out.cells.2
  go_wp2_with (fail)
  generalize hW : (w_11.alloc (.cells #[.bool false, .slice none 0 0] 24)) = WN at *
  clear hW
  generalize w_11.heap.size = bN at *
  refine (same_law _ _ 2 2 0 0 _ VX.out.2 VN.out.2).mono ?_
  rw [sameB_self]
  rintro e w_12 ⟨rfl, qq⟩
  clear kVX0 kVX1 kVY0 kVY1 kVZ0 kVZ1 kVN0 kVN1 kRA0 kRA1 kRB0 kRB1
  have HB := Lib.hid (bstep HB.out qq)
  have RA := Lib.hid (RA.out.step qq)
  have RB := Lib.hid (RB.out.step qq)
  have VX := Lib.hid (VX.out.step qq)
  have VY := Lib.hid (VY.out.step qq)
  have VZ := Lib.hid (VZ.out.step qq)
  have VN := Lib.hid (VN.out.step qq)
  clear qq
  have kVX0 := VX.out.cells.1
  have kVX1 := VX.out.cells.2
  have kVY0 := VY.out.cells.1
  have kVY1 := VY.out.cells.2
  have kVZ0 := VZ.out.cells.1
  have kVZ1 := VZ.out.cells.2
  have kVN0 := VN.out.cells.1
  have kVN1 := VN.out.cells.2
  go_wp2_with (fail)
  refine (same_law _ _ 2 2 0 0 _ VY.out.2 VN.out.2).mono ?_
  rw [sameB_self]
  rintro e w_13 ⟨rfl, qq⟩
  clear kVX0 kVX1 kVY0 kVY1 kVZ0 kVZ1 kVN0 kVN1
  have HB := Lib.hid (bstep HB.out qq)
  have RA := Lib.hid (RA.out.step qq)
  have RB := Lib.hid (RB.out.step qq)
  have VX := Lib.hid (VX.out.step qq)
  have VY := Lib.hid (VY.out.step qq)
  have VZ := Lib.hid (VZ.out.step qq)
  have VN := Lib.hid (VN.out.step qq)
  clear qq
  have kVX0 := VX.out.cells.1
  have kVX1 := VX.out.cells.2
  have kVY0 := VY.out.cells.1
  have kVY1 := VY.out.cells.2
  have kVZ0 := VZ.out.cells.1
  have kVZ1 := VZ.out.cells.2
  have kVN0 := VN.out.cells.1
  have kVN1 := VN.out.cells.2
  go_wp2_with (fail)
  refine (same_law _ _ 2 2 0 0 _ VZ.out.2 VN.out.2).mono ?_
  rw [sameB_self]
  rintro e w_14 ⟨rfl, qq⟩
  clear kVX0 kVX1 kVY0 kVY1 kVZ0 kVZ1 kVN0 kVN1
  have HB := Lib.hid (bstep HB.out qq)
  have RA := Lib.hid (RA.out.step qq)
  have RB := Lib.hid (RB.out.step qq)
  have VX := Lib.hid (VX.out.step qq)
  have VY := Lib.hid (VY.out.step qq)
  have VZ := Lib.hid (VZ.out.step qq)
  have VN := Lib.hid (VN.out.step qq)
  clear qq
  have kVX0 := VX.out.cells.1
  have kVX1 := VX.out.cells.2
  have kVY0 := VY.out.cells.1
  have kVY1 := VY.out.cells.2
  have kVZ0 := VZ.out.cells.1
  have kVZ1 := VZ.out.cells.2
  have kVN0 := VN.out.cells.1
  have kVN1 := VN.out.cells.2
  go_wp2_with (fail)
  refine (known_any _ (HT.out.below HB.out)).mono ?_
  rintro e wk ⟨rfl, qk⟩
  have HQ := Lib.hid (bstep HB.out qk)
  clear qk
  clear kVX0 kVX1 kVY0 kVY1 kVZ0 kVZ1 kVN0 kVN1
  go_wp2_with (fail)
  go_ret
  exact ⟨rfl, HQ.out⟩
set_option maxRecDepth 100000 in
set_option maxHeartbeats 8000000 in
theorem sums_bad2 {f f' : Bool} {n v n' v' : Nat} (x y : Value) (w : World) (hx : RawIs w w.heap.size x f n v) (hy : RawIs w w.heap.size y f' n' v') (h0 : validB f n v = true) (h1 : validB f' n' v' = false) (h : n ≤ 80) (h' : n' ≤ 80) (ht : Tens w) :
    Calls Tryd.prog 5 #[x, y] w fun e w' => e = .returned (.bool true) ∧ Below w.heap.size w w' := by
  have H0 := Lib.hid h0
  have H1 := Lib.hid h1
  clear h0 h1
  obtain ⟨A, c, rfl, hx⟩ := hx.look
  obtain ⟨A', c', rfl, hy⟩ := hy.look
  obtain ⟨va, vb, hb⟩ := two_raw hx hy
  have hq := below_alloc ((w.alloc (.cells #[.bool f, .slice A n c] 24)).alloc (.cells #[.bool f', .slice A' n' c'] 24)) (.cells #[.bool f, .slice A n c, .bool f', .slice A' n' c'] 24)
  have RA := Lib.hid (va.step hq)
  have RB := Lib.hid (vb.step hq)
  have HB := Lib.hid (bstep hb hq)
  have k0 := va.cells.1
  have k1 := va.cells.2
  have k2 := vb.cells.1
  have k3 := vb.cells.2
  have h4 := big4 ((w.alloc (.cells #[.bool f, .slice A n c] 24)).alloc (.cells #[.bool f', .slice A' n' c'] 24)) f f' A A' n c n' c'
  have HG := big_two _ A A' n c n' c' _ h4.1 h4.2
  rw [show (decide (80 < n) || decide (80 < n')) = false from by rw [decide_eq_false (by omega), decide_eq_false (by omega)]; rfl] at HG
  have HG := Lib.hid HG
  have HT := Lib.hid ht
  clear hx hy va vb hb hq h4 ht
  go_enter Tryd.func5, Tryd.ntmps5
  go_wp2_with (fail)
  generalize hW : ((w.alloc (.cells #[.bool f, .slice A n c] 24)).alloc (.cells #[.bool f', .slice A' n' c'] 24)).alloc (.cells #[.bool f, .slice A n c, .bool f', .slice A' n' c'] 24) = W at *
  clear hW k0 k1 k2 k3
  have HG := HG.out
  simp only [show ((w.alloc (.cells #[.bool f, .slice A n c] 24)).alloc (.cells #[.bool f', .slice A' n' c'] 24)).heap.size = w.heap.size + 1 + 1 from by simp] at HG
  refine HG.mono ?_
  rintro e w' ⟨rfl, rfl⟩
  clear HG
  clear h h'
  have kRA0 := RA.out.cells.1
  have kRA1 := RA.out.cells.2
  have kRB0 := RB.out.cells.1
  have kRB1 := RB.out.cells.2
  go_wp2_with (fail)
  refine (add_bad2 _ _ _ RA.out.2 H0.out RB.out.2 H1.out).mono ?_
  rintro e w_1 ⟨⟨yy, rfl, j1⟩, qq⟩
  obtain ⟨fVX, AVX, nVX, cVX, rfl, j1, -, -⟩ := j1.look
  have VX := Lib.hid (IntVar.new j1)
  have qa := bstep qq (below_alloc w_1 (.cells #[.bool fVX, .slice AVX nVX cVX] 24))
  clear kRA0 kRA1 kRB0 kRB1
  have HB := Lib.hid (bstep HB.out qa)
  have RA := Lib.hid (RA.out.step qa)
  have RB := Lib.hid (RB.out.step qa)
  clear qq qa j1
  have kRA0 := RA.out.cells.1
  have kRA1 := RA.out.cells.2
  have kRB0 := RB.out.cells.1
  have kRB1 := RB.out.cells.2
  go_wp2_with (fail)
  generalize hW : (w_1.alloc (.cells #[.bool fVX, .slice AVX nVX cVX] 24)) = W_2 at *
  clear hW
  generalize w_1.heap.size = b_3 at *
  refine (sub_bad2 _ _ _ RA.out.2 H0.out RB.out.2 H1.out).mono ?_
  rintro e w_4 ⟨⟨yy, rfl, j1⟩, qq⟩
  obtain ⟨fVY, AVY, nVY, cVY, rfl, j1, -, -⟩ := j1.look
  have VY := Lib.hid (IntVar.new j1)
  have qa := bstep qq (below_alloc w_4 (.cells #[.bool fVY, .slice AVY nVY cVY] 24))
  clear kRA0 kRA1 kRB0 kRB1
  have HB := Lib.hid (bstep HB.out qa)
  have RA := Lib.hid (RA.out.step qa)
  have RB := Lib.hid (RB.out.step qa)
  have VX := Lib.hid (VX.out.step qa)
  clear qq qa j1
  have kRA0 := RA.out.cells.1
  have kRA1 := RA.out.cells.2
  have kRB0 := RB.out.cells.1
  have kRB1 := RB.out.cells.2
  go_wp2_with (fail)
  generalize hW : (w_4.alloc (.cells #[.bool fVY, .slice AVY nVY cVY] 24)) = W_5 at *
  clear hW
  generalize w_4.heap.size = b_6 at *
  refine (mul_bad2 _ _ _ RA.out.2 H0.out RB.out.2 H1.out).mono ?_
  rintro e w_7 ⟨⟨yy, rfl, j1⟩, qq⟩
  obtain ⟨fVZ, AVZ, nVZ, cVZ, rfl, j1, -, -⟩ := j1.look
  have VZ := Lib.hid (IntVar.new j1)
  have qa := bstep qq (below_alloc w_7 (.cells #[.bool fVZ, .slice AVZ nVZ cVZ] 24))
  clear kRA0 kRA1 kRB0 kRB1
  have HB := Lib.hid (bstep HB.out qa)
  have RA := Lib.hid (RA.out.step qa)
  have RB := Lib.hid (RB.out.step qa)
  have VX := Lib.hid (VX.out.step qa)
  have VY := Lib.hid (VY.out.step qa)
  clear qq qa j1
  have kRA0 := RA.out.cells.1
  have kRA1 := RA.out.cells.2
  have kRB0 := RB.out.cells.1
  have kRB1 := RB.out.cells.2
  go_wp2_with (fail)
  generalize hW : (w_7.alloc (.cells #[.bool fVZ, .slice AVZ nVZ cVZ] 24)) = W_8 at *
  clear hW
  generalize w_7.heap.size = b_9 at *
  refine (cmp_bad2 _ _ _ RA.out.2 H0.out RB.out.2 H1.out).mono ?_
  rintro e w_10 ⟨rfl, qq⟩
  clear kRA0 kRA1 kRB0 kRB1
  have HB := Lib.hid (bstep HB.out qq)
  have RA := Lib.hid (RA.out.step qq)
  have RB := Lib.hid (RB.out.step qq)
  have VX := Lib.hid (VX.out.step qq)
  have VY := Lib.hid (VY.out.step qq)
  have VZ := Lib.hid (VZ.out.step qq)
  clear qq
  have kRA0 := RA.out.cells.1
  have kRA1 := RA.out.cells.2
  have kRB0 := RB.out.cells.1
  have kRB1 := RB.out.cells.2
  go_wp2_with (fail)
  refine (rvalid_is _ _ RA.out.2).mono ?_
  rw [H0.out]
  rintro e w_11 ⟨rfl, qq⟩
  clear kRA0 kRA1 kRB0 kRB1
  have HB := Lib.hid (bstep HB.out qq)
  have RA := Lib.hid (RA.out.step qq)
  have RB := Lib.hid (RB.out.step qq)
  have VX := Lib.hid (VX.out.step qq)
  have VY := Lib.hid (VY.out.step qq)
  have VZ := Lib.hid (VZ.out.step qq)
  clear qq
  have kRA0 := RA.out.cells.1
  have kRA1 := RA.out.cells.2
  have kRB0 := RB.out.cells.1
  have kRB1 := RB.out.cells.2
  go_wp2_with (fail)
  refine (rvalid_is _ _ RB.out.2).mono ?_
  rw [H1.out]
  rintro e w_12 ⟨rfl, qq⟩
  clear kRA0 kRA1 kRB0 kRB1
  have HB := Lib.hid (bstep HB.out qq)
  have RA := Lib.hid (RA.out.step qq)
  have RB := Lib.hid (RB.out.step qq)
  have VX := Lib.hid (VX.out.step qq)
  have VY := Lib.hid (VY.out.step qq)
  have VZ := Lib.hid (VZ.out.step qq)
  clear qq
  have VN := Lib.hid (IntVar.new (intIs_zero w_12 _))
  have qa := below_alloc w_12 (.cells #[.bool false, .slice none 0 0] 24)
  have HB := Lib.hid (bstep HB.out qa)
  have RA := Lib.hid (RA.out.step qa)
  have RB := Lib.hid (RB.out.step qa)
  have VX := Lib.hid (VX.out.step qa)
  have VY := Lib.hid (VY.out.step qa)
  have VZ := Lib.hid (VZ.out.step qa)
  clear qa
  have kVX0 := VX.out.cells.1
  have kVX1 := VX.out.cells.2
  have kVY0 := VY.out.cells.1
  have kVY1 := VY.out.cells.2
  have kVZ0 := VZ.out.cells.1
  have kVZ1 := VZ.out.cells.2
  have kVN0 := VN.out.cells.1
  have kVN1 := VN.out.cells.2
  have kRA0 := RA.out.cells.1
  have kRA1 := RA.out.cells.2
  have kRB0 := RB.out.cells.1
  have kRB1 := RB.out.cells.2
  go_wp2_with (fail)
  generalize hW : (w_12.alloc (.cells #[.bool false, .slice none 0 0] 24)) = WN at *
  clear hW
  generalize w_12.heap.size = bN at *
  refine (same_law _ _ 2 2 0 0 _ VX.out.2 VN.out.2).mono ?_
  rw [sameB_self]
  rintro e w_13 ⟨rfl, qq⟩
  clear kVX0 kVX1 kVY0 kVY1 kVZ0 kVZ1 kVN0 kVN1 kRA0 kRA1 kRB0 kRB1
  have HB := Lib.hid (bstep HB.out qq)
  have RA := Lib.hid (RA.out.step qq)
  have RB := Lib.hid (RB.out.step qq)
  have VX := Lib.hid (VX.out.step qq)
  have VY := Lib.hid (VY.out.step qq)
  have VZ := Lib.hid (VZ.out.step qq)
  have VN := Lib.hid (VN.out.step qq)
  clear qq
  have kVX0 := VX.out.cells.1
  have kVX1 := VX.out.cells.2
  have kVY0 := VY.out.cells.1
  have kVY1 := VY.out.cells.2
  have kVZ0 := VZ.out.cells.1
  have kVZ1 := VZ.out.cells.2
  have kVN0 := VN.out.cells.1
  have kVN1 := VN.out.cells.2
  go_wp2_with (fail)
  refine (same_law _ _ 2 2 0 0 _ VY.out.2 VN.out.2).mono ?_
  rw [sameB_self]
  rintro e w_14 ⟨rfl, qq⟩
  clear kVX0 kVX1 kVY0 kVY1 kVZ0 kVZ1 kVN0 kVN1
  have HB := Lib.hid (bstep HB.out qq)
  have RA := Lib.hid (RA.out.step qq)
  have RB := Lib.hid (RB.out.step qq)
  have VX := Lib.hid (VX.out.step qq)
  have VY := Lib.hid (VY.out.step qq)
  have VZ := Lib.hid (VZ.out.step qq)
  have VN := Lib.hid (VN.out.step qq)
  clear qq
  have kVX0 := VX.out.cells.1
  have kVX1 := VX.out.cells.2
  have kVY0 := VY.out.cells.1
  have kVY1 := VY.out.cells.2
  have kVZ0 := VZ.out.cells.1
  have kVZ1 := VZ.out.cells.2
  have kVN0 := VN.out.cells.1
  have kVN1 := VN.out.cells.2
  go_wp2_with (fail)
  refine (same_law _ _ 2 2 0 0 _ VZ.out.2 VN.out.2).mono ?_
  rw [sameB_self]
  rintro e w_15 ⟨rfl, qq⟩
  clear kVX0 kVX1 kVY0 kVY1 kVZ0 kVZ1 kVN0 kVN1
  have HB := Lib.hid (bstep HB.out qq)
  have RA := Lib.hid (RA.out.step qq)
  have RB := Lib.hid (RB.out.step qq)
  have VX := Lib.hid (VX.out.step qq)
  have VY := Lib.hid (VY.out.step qq)
  have VZ := Lib.hid (VZ.out.step qq)
  have VN := Lib.hid (VN.out.step qq)
  clear qq
  have kVX0 := VX.out.cells.1
  have kVX1 := VX.out.cells.2
  have kVY0 := VY.out.cells.1
  have kVY1 := VY.out.cells.2
  have kVZ0 := VZ.out.cells.1
  have kVZ1 := VZ.out.cells.2
  have kVN0 := VN.out.cells.1
  have kVN1 := VN.out.cells.2
  go_wp2_with (fail)
  refine (known_any _ (HT.out.below HB.out)).mono ?_
  rintro e wk ⟨rfl, qk⟩
  have HQ := Lib.hid (bstep HB.out qk)
  clear qk
  clear kVX0 kVX1 kVY0 kVY1 kVZ0 kVZ1 kVN0 kVN1
  go_wp2_with (fail)
  go_ret
  exact ⟨rfl, HQ.out⟩
set_option maxRecDepth 100000 in
set_option maxHeartbeats 8000000 in
theorem sums_main (x y : Value) (a b : Int) (w : World) (hz : IntIs w w.heap.size x a) (hz' : IntIs w w.heap.size y b) (h0 : blen a.natAbs ≤ 64) (h1 : blen b.natAbs ≤ 64) (ht : Tens w) :
    Calls Tryd.prog 5 #[x, y] w fun e w' => e = .returned (.bool true) ∧ Below w.heap.size w w' := by
  have hx := hz.raw
  have hy := hz'.raw
  obtain ⟨f, hf⟩ : ∃ f, f = decide (a < 0) := ⟨_, rfl⟩
  obtain ⟨n, hn⟩ : ∃ n, n = blen a.natAbs := ⟨_, rfl⟩
  obtain ⟨f', hf'⟩ : ∃ f, f = decide (b < 0) := ⟨_, rfl⟩
  obtain ⟨n', hn'⟩ : ∃ n, n = blen b.natAbs := ⟨_, rfl⟩
  rw [← hf, ← hn] at hx
  rw [← hf', ← hn'] at hy
  have HZA := Lib.hid hz
  have HZB := Lib.hid hz'
  have H0 := Lib.hid h0
  have H1 := Lib.hid h1
  have HVA := Lib.hid (show validB f n a.natAbs = true by rw [hf, hn]; exact valid_of h0)
  have HVB := Lib.hid (show validB f' n' b.natAbs = true by rw [hf', hn']; exact valid_of h1)
  have hn80 : n ≤ 80 := by omega
  have hn80' : n' ≤ 80 := by omega
  clear hz hz' hf hf' hn hn' h0 h1
  obtain ⟨A, c, rfl, hx⟩ := hx.look
  obtain ⟨A', c', rfl, hy⟩ := hy.look
  obtain ⟨va, vb, hb⟩ := two_raw hx hy
  have hq := below_alloc ((w.alloc (.cells #[.bool f, .slice A n c] 24)).alloc (.cells #[.bool f', .slice A' n' c'] 24)) (.cells #[.bool f, .slice A n c, .bool f', .slice A' n' c'] 24)
  have RA := Lib.hid (va.step hq)
  have RB := Lib.hid (vb.step hq)
  have HB := Lib.hid (bstep hb hq)
  have k0 := va.cells.1
  have k1 := va.cells.2
  have k2 := vb.cells.1
  have k3 := vb.cells.2
  have h4 := big4 ((w.alloc (.cells #[.bool f, .slice A n c] 24)).alloc (.cells #[.bool f', .slice A' n' c'] 24)) f f' A A' n c n' c'
  have HG := big_two _ A A' n c n' c' _ h4.1 h4.2
  rw [show (decide (80 < n) || decide (80 < n')) = false from by rw [decide_eq_false (by omega), decide_eq_false (by omega)]; rfl] at HG
  have HG := Lib.hid HG
  have HT := Lib.hid ht
  clear hx hy va vb hb hq h4 ht
  go_enter Tryd.func5, Tryd.ntmps5
  go_wp2_with (fail)
  generalize hW : ((w.alloc (.cells #[.bool f, .slice A n c] 24)).alloc (.cells #[.bool f', .slice A' n' c'] 24)).alloc (.cells #[.bool f, .slice A n c, .bool f', .slice A' n' c'] 24) = W at *
  clear hW k0 k1 k2 k3
  have HG := HG.out
  simp only [show ((w.alloc (.cells #[.bool f, .slice A n c] 24)).alloc (.cells #[.bool f', .slice A' n' c'] 24)).heap.size = w.heap.size + 1 + 1 from by simp] at HG
  refine HG.mono ?_
  rintro e w' ⟨rfl, rfl⟩
  clear HG
  have VA := Lib.hid (show IntVar W w.heap.size f A n c a from ⟨RA.out.1, HZA.out.step HB.out⟩)
  have VB := Lib.hid (show IntVar W (w.heap.size + 1) f' A' n' c' b from ⟨RB.out.1, HZB.out.step HB.out⟩)
  clear hn80 hn80' HZA HZB
  have kVA0 := VA.out.cells.1
  have kVA1 := VA.out.cells.2
  have kVB0 := VB.out.cells.1
  have kVB1 := VB.out.cells.2
  go_wp2_with (fail)
  refine (add_int _ _ a b _ VA.out.2 VB.out.2 H0.out H1.out).mono ?_
  rintro e w_1 ⟨⟨yy, rfl, j1⟩, qq⟩
  obtain ⟨fVX, AVX, nVX, cVX, rfl, j1, -, -⟩ := j1.look
  have VX := Lib.hid (IntVar.new j1)
  have qa := bstep qq (below_alloc w_1 (.cells #[.bool fVX, .slice AVX nVX cVX] 24))
  clear kVA0 kVA1 kVB0 kVB1
  have HB := Lib.hid (bstep HB.out qa)
  have RA := Lib.hid (RA.out.step qa)
  have RB := Lib.hid (RB.out.step qa)
  have VA := Lib.hid (VA.out.step qa)
  have VB := Lib.hid (VB.out.step qa)
  clear qq qa j1
  have kVA0 := VA.out.cells.1
  have kVA1 := VA.out.cells.2
  have kVB0 := VB.out.cells.1
  have kVB1 := VB.out.cells.2
  go_wp2_with (fail)
  generalize hW : (w_1.alloc (.cells #[.bool fVX, .slice AVX nVX cVX] 24)) = W_2 at *
  clear hW
  generalize w_1.heap.size = b_3 at *
  refine (sub_int _ _ a b _ VA.out.2 VB.out.2 H0.out H1.out).mono ?_
  rintro e w_4 ⟨⟨yy, rfl, j1⟩, qq⟩
  obtain ⟨fVY, AVY, nVY, cVY, rfl, j1, -, -⟩ := j1.look
  have VY := Lib.hid (IntVar.new j1)
  have qa := bstep qq (below_alloc w_4 (.cells #[.bool fVY, .slice AVY nVY cVY] 24))
  clear kVA0 kVA1 kVB0 kVB1
  have HB := Lib.hid (bstep HB.out qa)
  have RA := Lib.hid (RA.out.step qa)
  have RB := Lib.hid (RB.out.step qa)
  have VA := Lib.hid (VA.out.step qa)
  have VB := Lib.hid (VB.out.step qa)
  have VX := Lib.hid (VX.out.step qa)
  clear qq qa j1
  have kVA0 := VA.out.cells.1
  have kVA1 := VA.out.cells.2
  have kVB0 := VB.out.cells.1
  have kVB1 := VB.out.cells.2
  go_wp2_with (fail)
  generalize hW : (w_4.alloc (.cells #[.bool fVY, .slice AVY nVY cVY] 24)) = W_5 at *
  clear hW
  generalize w_4.heap.size = b_6 at *
  refine (mul_fit _ _ a b _ VA.out.2 VB.out.2 H0.out H1.out).mono ?_
  rintro e w_7 ⟨⟨yy, rfl, j1⟩, qq⟩
  obtain ⟨fVZ, AVZ, nVZ, cVZ, rfl, j1, -, -⟩ := j1.look
  have VZ := Lib.hid (IntVar.new j1)
  have qa := bstep qq (below_alloc w_7 (.cells #[.bool fVZ, .slice AVZ nVZ cVZ] 24))
  clear kVA0 kVA1 kVB0 kVB1
  have HB := Lib.hid (bstep HB.out qa)
  have RA := Lib.hid (RA.out.step qa)
  have RB := Lib.hid (RB.out.step qa)
  have VA := Lib.hid (VA.out.step qa)
  have VB := Lib.hid (VB.out.step qa)
  have VX := Lib.hid (VX.out.step qa)
  have VY := Lib.hid (VY.out.step qa)
  clear qq qa j1
  have kVA0 := VA.out.cells.1
  have kVA1 := VA.out.cells.2
  have kVB0 := VB.out.cells.1
  have kVB1 := VB.out.cells.2
  go_wp2_with (fail)
  generalize hW : (w_7.alloc (.cells #[.bool fVZ, .slice AVZ nVZ cVZ] 24)) = W_8 at *
  clear hW
  generalize w_7.heap.size = b_9 at *
  refine (compare_num _ _ a b _ VA.out.2 VB.out.2 H0.out H1.out).mono ?_
  rintro e w_10 ⟨rfl, qq⟩
  clear kVA0 kVA1 kVB0 kVB1
  have HB := Lib.hid (bstep HB.out qq)
  have RA := Lib.hid (RA.out.step qq)
  have RB := Lib.hid (RB.out.step qq)
  have VA := Lib.hid (VA.out.step qq)
  have VB := Lib.hid (VB.out.step qq)
  have VX := Lib.hid (VX.out.step qq)
  have VY := Lib.hid (VY.out.step qq)
  have VZ := Lib.hid (VZ.out.step qq)
  clear qq
  have kVA0 := VA.out.cells.1
  have kVA1 := VA.out.cells.2
  have kVB0 := VB.out.cells.1
  have kVB1 := VB.out.cells.2
  go_wp2_with (fail)
  refine (rvalid_is _ _ RA.out.2).mono ?_
  rw [HVA.out]
  rintro e w_11 ⟨rfl, qq⟩
  clear kVA0 kVA1 kVB0 kVB1
  have HB := Lib.hid (bstep HB.out qq)
  have RA := Lib.hid (RA.out.step qq)
  have RB := Lib.hid (RB.out.step qq)
  have VA := Lib.hid (VA.out.step qq)
  have VB := Lib.hid (VB.out.step qq)
  have VX := Lib.hid (VX.out.step qq)
  have VY := Lib.hid (VY.out.step qq)
  have VZ := Lib.hid (VZ.out.step qq)
  clear qq
  have kVA0 := VA.out.cells.1
  have kVA1 := VA.out.cells.2
  have kVB0 := VB.out.cells.1
  have kVB1 := VB.out.cells.2
  go_wp2_with (fail)
  refine (rvalid_is _ _ RB.out.2).mono ?_
  rw [HVB.out]
  rintro e w_12 ⟨rfl, qq⟩
  clear kVA0 kVA1 kVB0 kVB1
  have HB := Lib.hid (bstep HB.out qq)
  have RA := Lib.hid (RA.out.step qq)
  have RB := Lib.hid (RB.out.step qq)
  have VA := Lib.hid (VA.out.step qq)
  have VB := Lib.hid (VB.out.step qq)
  have VX := Lib.hid (VX.out.step qq)
  have VY := Lib.hid (VY.out.step qq)
  have VZ := Lib.hid (VZ.out.step qq)
  clear qq
  have kVA0 := VA.out.cells.1
  have kVA1 := VA.out.cells.2
  have kVB0 := VB.out.cells.1
  have kVB1 := VB.out.cells.2
  go_wp2_with (fail)
  clear RA RB HVA HVB
  refine (sum_int _ _ a b _ VA.out.2 VB.out.2 (Nat.lt_of_le_of_lt H0.out (by omega)) (Nat.lt_of_le_of_lt H1.out (by omega))).mono ?_
  rintro e w_13 ⟨⟨yy, rfl, js⟩, qq⟩
  clear kVA0 kVA1 kVB0 kVB1
  have HB := Lib.hid (bstep HB.out qq)
  have VA := Lib.hid (VA.out.step qq)
  have VB := Lib.hid (VB.out.step qq)
  have VX := Lib.hid (VX.out.step qq)
  have VY := Lib.hid (VY.out.step qq)
  have VZ := Lib.hid (VZ.out.step qq)
  have js := Lib.hid js
  clear qq
  go_wp2_with (fail)
  refine (limited_fit _ _ _ js.out).mono ?_
  rintro e w_14 ⟨⟨yy, rfl, j1⟩, qq⟩
  obtain ⟨fVU, AVU, nVU, cVU, rfl, j1, -, -⟩ := j1.look
  have VU := Lib.hid (IntVar.new j1)
  have qa := bstep qq (below_alloc w_14 (.cells #[.bool fVU, .slice AVU nVU cVU] 24))
  have HB := Lib.hid (bstep HB.out qa)
  have VA := Lib.hid (VA.out.step qa)
  have VB := Lib.hid (VB.out.step qa)
  have VX := Lib.hid (VX.out.step qa)
  have VY := Lib.hid (VY.out.step qa)
  have VZ := Lib.hid (VZ.out.step qa)
  clear qq qa j1
  have kVA0 := VA.out.cells.1
  have kVA1 := VA.out.cells.2
  have kVB0 := VB.out.cells.1
  have kVB1 := VB.out.cells.2
  go_wp2_with (fail)
  generalize hW : (w_14.alloc (.cells #[.bool fVU, .slice AVU nVU cVU] 24)) = W_15 at *
  clear hW
  generalize w_14.heap.size = b_16 at *
  clear kVA0 kVA1 kVB0 kVB1
  have a0 := VA.out.cells.1
  have a1 := VA.out.cells.2
  have b0 := VB.out.cells.1
  have b1 := VB.out.cells.2
  have LA := VA.out.1.lt
  have LB := VB.out.1.lt
  generalize hfz : fitZ (a - b) = zd at *
  generalize hfe : fitE (a - b) = ed at *
  have HFD := Lib.hid (And.intro hfz hfe)
  clear hfz hfe
  go_cut [15, 16] (fun s15 s16 wx => ∃ g D p d q, s15 = .pointer (some ⟨q, 0, none⟩) ∧ s16 = .int .i64 ed ∧ IntVar wx q g D p d zd ∧ Below W_15.heap.size W_15 wx)
  case first =>
    have HLIM := Lib.hid (fun (x : Value) (w : World) (hx : IntIs w w.heap.size x (a + -b)) => limited_fit x (a + -b) w hx)
    rw [show a + -b = a - b from rfl, HFD.out.1, HFD.out.2] at HLIM
    go_region_held3 (fun w' => w'.cell? ⟨w.heap.size, 0, none⟩ = some (.bool f) ∧ w'.cell? ⟨w.heap.size, 1, none⟩ = some (.slice A n c) ∧ w'.cell? ⟨w.heap.size + 1, 0, none⟩ = some (.bool f') ∧ w'.cell? ⟨w.heap.size + 1, 1, none⟩ = some (.slice A' n' c'))
      ((refine keep4b (W4 := W_15) ?_ a0 a1 b0 b1 LA LB; (repeat (first | exact hb | exact below_drew0 _ | exact Below.refl _ _ | exact below_set2 hb (Nat.le_refl _) | exact below_set2 hb hl3 | exact below_set2 hb hl4 | refine bal ?_ _ | refine Below.drew ?_))))
      (first
        | (go_at_call 24; refine (negative_int _ b _ ?_ (Nat.lt_of_le_of_lt H1.out (by omega))).mono ?_; (first | exact VB.out.2 | exact VB.out.2.step (below_alloc _ _).drew); rintro e w3 ⟨⟨xn, rfl, jn⟩, hq⟩; (first | have hb := bstep (below_drew0 W_15) hq | have hb := bstep ((below_alloc W_15 _).drew) hq); have hl3 := hb.size; (first | have hz := var_ald (X := W_15) (Y := w3) hq | skip); clear hq)
        | (go_at_call 31; refine (sum_int _ _ a (-b) _ ?_ ?_ (Nat.lt_of_le_of_lt H0.out (by omega)) (by rw [Int.natAbs_neg]; exact Nat.lt_of_le_of_lt H1.out (by omega))).mono ?_; (first | exact VA.out.2.step hb | exact VA.out.2.step (bal hb _)); (first | exact jn | exact jn.step (below_alloc _ _)); rintro e w4 ⟨⟨xs, rfl, js⟩, hq⟩; (first | have hb2 := bstep hb hq | have hb2 := bstep (bal hb _) hq); have hl4 := hb2.size; (first | have hz2 := hz.below hq hz.lt | have hz2 := var_al (X := w3) (Y := w4) hq | skip); clear hq hb; have hb := hb2)
        | (go_at_call 30; refine (HLIM.out _ _ ?_).mono ?_; (first | exact js | exact js.step (below_alloc _ _)); rintro e w5 ⟨⟨xl, rfl, jl⟩, hq⟩; obtain ⟨g, D, p, d, rfl, jl, -, -⟩ := jl.look; (first | have hb3 := bstep hb hq | have hb3 := bstep (bal hb _) hq); have hl5 := hb3.size; (first | have hz3 := hz2.below hq hz2.lt | have hz3 := var_al (X := w4) (Y := w5) hq | skip); (first | (have c0 := hz3.cell 0; have c1 := hz3.cell 1; have z0 := hz3.free 0; have z1 := hz3.free 1; simp only [List.getElem?_toArray, List.getElem?_cons_succ, List.getElem?_cons_zero] at c0 c1) | skip); clear hq hb; have hb := hb3))
    all_goals
      go_wp2_with (fail)
      go_meet
      first
        | exact ⟨g, D, p, d, _, rfl, rfl, intVar_set hz3 jl, below_set2 hb (Nat.le_refl _)⟩
        | exact ⟨g, D, p, d, _, rfl, rfl, intVar_set hz3 jl, below_set2 hb hl3⟩
        | exact ⟨g, D, p, d, _, rfl, rfl, intVar_set hz3 jl, below_set2 hb hl4⟩
        | exact ⟨g, D, p, d, _, rfl, rfl, IntVar.new jl, bal hb _⟩
  case rest =>
  obtain ⟨gV, DV, pV, dV, qV, rfl, rfl, hv, qc⟩ := hcut
  have VV := Lib.hid hv
  clear a0 a1 b0 b1 LA LB hv
  have HB := Lib.hid (bstep HB.out qc)
  have VA := Lib.hid (VA.out.step qc)
  have VB := Lib.hid (VB.out.step qc)
  have VX := Lib.hid (VX.out.step qc)
  have VY := Lib.hid (VY.out.step qc)
  have VZ := Lib.hid (VZ.out.step qc)
  have VU := Lib.hid (VU.out.step qc)
  clear qc
  have kVA0 := VA.out.cells.1
  have kVA1 := VA.out.cells.2
  have kVB0 := VB.out.cells.1
  have kVB1 := VB.out.cells.2
  go_wp2_with (fail)
  refine (product_int _ _ a b _ VA.out.2 VB.out.2 (Nat.lt_of_le_of_lt H0.out (by omega)) (Nat.lt_of_le_of_lt H1.out (by omega))).mono ?_
  rintro e w_17 ⟨⟨yy, rfl, jp⟩, qq⟩
  clear kVA0 kVA1 kVB0 kVB1
  have HB := Lib.hid (bstep HB.out qq)
  have VA := Lib.hid (VA.out.step qq)
  have VB := Lib.hid (VB.out.step qq)
  have VX := Lib.hid (VX.out.step qq)
  have VY := Lib.hid (VY.out.step qq)
  have VZ := Lib.hid (VZ.out.step qq)
  have VU := Lib.hid (VU.out.step qq)
  have VV := Lib.hid (VV.out.step qq)
  have jp := Lib.hid jp
  clear qq
  go_wp2_with (fail)
  refine (limited_fit _ _ _ jp.out).mono ?_
  rintro e w_18 ⟨⟨yy, rfl, j1⟩, qq⟩
  obtain ⟨fVW, AVW, nVW, cVW, rfl, j1, -, -⟩ := j1.look
  have VW := Lib.hid (IntVar.new j1)
  have qa := bstep qq (below_alloc w_18 (.cells #[.bool fVW, .slice AVW nVW cVW] 24))
  have HB := Lib.hid (bstep HB.out qa)
  have VA := Lib.hid (VA.out.step qa)
  have VB := Lib.hid (VB.out.step qa)
  have VX := Lib.hid (VX.out.step qa)
  have VY := Lib.hid (VY.out.step qa)
  have VZ := Lib.hid (VZ.out.step qa)
  have VU := Lib.hid (VU.out.step qa)
  have VV := Lib.hid (VV.out.step qa)
  clear qq qa j1
  have kVA0 := VA.out.cells.1
  have kVA1 := VA.out.cells.2
  have kVB0 := VB.out.cells.1
  have kVB1 := VB.out.cells.2
  have kVX0 := VX.out.cells.1
  have kVX1 := VX.out.cells.2
  have kVY0 := VY.out.cells.1
  have kVY1 := VY.out.cells.2
  have kVZ0 := VZ.out.cells.1
  have kVZ1 := VZ.out.cells.2
  have kVU0 := VU.out.cells.1
  have kVU1 := VU.out.cells.2
  have kVV0 := VV.out.cells.1
  have kVV1 := VV.out.cells.2
  go_wp2_with (fail)
  generalize hW : (w_18.alloc (.cells #[.bool fVW, .slice AVW nVW cVW] 24)) = W_19 at *
  clear hW
  generalize w_18.heap.size = b_20 at *
  clear kVA0 kVA1 kVB0 kVB1 kVX0 kVX1 kVY0 kVY1 kVZ0 kVZ1 kVU0 kVU1 kVV0 kVV1
  refine (same_law _ _ _ _ _ _ _ VX.out.2 VU.out.2).mono ?_
  rw [sameB_self]
  rintro e w_21 ⟨rfl, qq⟩
  have HB := Lib.hid (bstep HB.out qq)
  have VA := Lib.hid (VA.out.step qq)
  have VB := Lib.hid (VB.out.step qq)
  have VX := Lib.hid (VX.out.step qq)
  have VY := Lib.hid (VY.out.step qq)
  have VZ := Lib.hid (VZ.out.step qq)
  have VU := Lib.hid (VU.out.step qq)
  have VV := Lib.hid (VV.out.step qq)
  have VW := Lib.hid (VW.out.step qq)
  clear qq
  have kVA0 := VA.out.cells.1
  have kVA1 := VA.out.cells.2
  have kVB0 := VB.out.cells.1
  have kVB1 := VB.out.cells.2
  have kVX0 := VX.out.cells.1
  have kVX1 := VX.out.cells.2
  have kVY0 := VY.out.cells.1
  have kVY1 := VY.out.cells.2
  have kVZ0 := VZ.out.cells.1
  have kVZ1 := VZ.out.cells.2
  have kVU0 := VU.out.cells.1
  have kVU1 := VU.out.cells.2
  have kVV0 := VV.out.cells.1
  have kVV1 := VV.out.cells.2
  have kVW0 := VW.out.cells.1
  have kVW1 := VW.out.cells.2
  go_wp2_with (fail)
  refine (same_law _ _ _ _ _ _ _ VY.out.2 VV.out.2).mono ?_
  rw [sameB_self]
  rintro e w_22 ⟨rfl, qq⟩
  clear kVA0 kVA1 kVB0 kVB1 kVX0 kVX1 kVY0 kVY1 kVZ0 kVZ1 kVU0 kVU1 kVV0 kVV1 kVW0 kVW1
  have HB := Lib.hid (bstep HB.out qq)
  have VA := Lib.hid (VA.out.step qq)
  have VB := Lib.hid (VB.out.step qq)
  have VX := Lib.hid (VX.out.step qq)
  have VY := Lib.hid (VY.out.step qq)
  have VZ := Lib.hid (VZ.out.step qq)
  have VU := Lib.hid (VU.out.step qq)
  have VV := Lib.hid (VV.out.step qq)
  have VW := Lib.hid (VW.out.step qq)
  clear qq
  have kVA0 := VA.out.cells.1
  have kVA1 := VA.out.cells.2
  have kVB0 := VB.out.cells.1
  have kVB1 := VB.out.cells.2
  have kVX0 := VX.out.cells.1
  have kVX1 := VX.out.cells.2
  have kVY0 := VY.out.cells.1
  have kVY1 := VY.out.cells.2
  have kVZ0 := VZ.out.cells.1
  have kVZ1 := VZ.out.cells.2
  have kVU0 := VU.out.cells.1
  have kVU1 := VU.out.cells.2
  have kVV0 := VV.out.cells.1
  have kVV1 := VV.out.cells.2
  have kVW0 := VW.out.cells.1
  have kVW1 := VW.out.cells.2
  go_wp2_with (fail)
  refine (same_law _ _ _ _ _ _ _ VZ.out.2 VW.out.2).mono ?_
  rw [sameB_self]
  rintro e w_23 ⟨rfl, qq⟩
  clear kVA0 kVA1 kVB0 kVB1 kVX0 kVX1 kVY0 kVY1 kVZ0 kVZ1 kVU0 kVU1 kVV0 kVV1 kVW0 kVW1
  have HB := Lib.hid (bstep HB.out qq)
  have VA := Lib.hid (VA.out.step qq)
  have VB := Lib.hid (VB.out.step qq)
  have VX := Lib.hid (VX.out.step qq)
  have VY := Lib.hid (VY.out.step qq)
  have VZ := Lib.hid (VZ.out.step qq)
  have VU := Lib.hid (VU.out.step qq)
  have VV := Lib.hid (VV.out.step qq)
  have VW := Lib.hid (VW.out.step qq)
  clear qq
  have kVA0 := VA.out.cells.1
  have kVA1 := VA.out.cells.2
  have kVB0 := VB.out.cells.1
  have kVB1 := VB.out.cells.2
  have kVX0 := VX.out.cells.1
  have kVX1 := VX.out.cells.2
  have kVY0 := VY.out.cells.1
  have kVY1 := VY.out.cells.2
  have kVZ0 := VZ.out.cells.1
  have kVZ1 := VZ.out.cells.2
  have kVU0 := VU.out.cells.1
  have kVU1 := VU.out.cells.2
  have kVV0 := VV.out.cells.1
  have kVV1 := VV.out.cells.2
  have kVW0 := VW.out.cells.1
  have kVW1 := VW.out.cells.2
  go_wp2_with (fail)
  refine (compare_int _ _ a b _ VA.out.2 VB.out.2 (Nat.lt_of_le_of_lt H0.out (by omega)) (Nat.lt_of_le_of_lt H1.out (by omega))).mono ?_
  rintro e w_24 ⟨rfl, qq⟩
  clear kVA0 kVA1 kVB0 kVB1 kVX0 kVX1 kVY0 kVY1 kVZ0 kVZ1 kVU0 kVU1 kVV0 kVV1 kVW0 kVW1
  have HB := Lib.hid (bstep HB.out qq)
  have VA := Lib.hid (VA.out.step qq)
  have VB := Lib.hid (VB.out.step qq)
  have VX := Lib.hid (VX.out.step qq)
  have VY := Lib.hid (VY.out.step qq)
  have VZ := Lib.hid (VZ.out.step qq)
  have VU := Lib.hid (VU.out.step qq)
  have VV := Lib.hid (VV.out.step qq)
  have VW := Lib.hid (VW.out.step qq)
  clear qq
  have kVA0 := VA.out.cells.1
  have kVA1 := VA.out.cells.2
  have kVB0 := VB.out.cells.1
  have kVB1 := VB.out.cells.2
  have kVX0 := VX.out.cells.1
  have kVX1 := VX.out.cells.2
  have kVY0 := VY.out.cells.1
  have kVY1 := VY.out.cells.2
  have kVZ0 := VZ.out.cells.1
  have kVZ1 := VZ.out.cells.2
  have kVU0 := VU.out.cells.1
  have kVU1 := VU.out.cells.2
  have kVV0 := VV.out.cells.1
  have kVV1 := VV.out.cells.2
  have kVW0 := VW.out.cells.1
  have kVW1 := VW.out.cells.2
  go_wp2_with (fail)
  refine (known_any _ (HT.out.below HB.out)).mono ?_
  rintro e wk ⟨rfl, qk⟩
  have HQ := Lib.hid (bstep HB.out qk)
  clear qk
  clear kVA0 kVA1 kVB0 kVB1 kVX0 kVX1 kVY0 kVY1 kVZ0 kVZ1 kVU0 kVU1 kVV0 kVV1 kVW0 kVW1
  go_wp2_with (fail)
  go_ret
  exact ⟨rfl, HQ.out⟩
theorem sums_any {f f' : Bool} {n v n' v' : Nat} (x y : Value) (w : World) (hx : RawIs w w.heap.size x f n v) (hy : RawIs w w.heap.size y f' n' v') (hv : v < 256 ^ n) (hv' : v' < 256 ^ n') (ht : Tens w) :
    Calls Tryd.prog 5 #[x, y] w fun e w' => e = .returned (.bool true) ∧ Below w.heap.size w w' := by
  by_cases hn : 80 < n ∨ 80 < n'
  · exact sums_big x y w hx hy hn ht
  · cases hb : validB f n v
    · exact sums_bad1 x y w hx hy hb (by omega) (by omega) ht
    · cases hb' : validB f' n' v'
      · exact sums_bad2 x y w hx hy hb hb' (by omega) (by omega) ht
      · obtain ⟨a, ha, ha64⟩ := hx.int hv hb
        obtain ⟨b, hb, hb64⟩ := hy.int hv' hb'
        exact sums_main x y a b w ha hb ha64 hb64 ht
end Go.Proofs.YtkofhjjfngnmmaaDoor
