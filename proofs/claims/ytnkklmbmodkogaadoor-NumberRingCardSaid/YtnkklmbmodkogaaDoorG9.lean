/- What the functions of number answer to Ints that are not valid: Value, Neg, Power, Digits10, Text. What the functions of number with two Ints answer when one of them is not valid. law01's known: the examples of the chapter. -/
import Derived.Test.YtnkklmbmodkogaaDoorG8
import Derived.Test.YtnkklmbmodkogaaDoorG7
import Derived.Deep.DeepCutAuto
import Derived.Deep.RegionHeld3
/-! Bad1 -/
namespace Go.Proofs.YtnkklmbmodkogaaDoor
open Go.RowKit

/-- A value of the type Int, valid or not: n digits that are those of v. -/
def RawIs (w : World) (B : Nat) (x : Value) (f : Bool) (n v : Nat) : Prop := ∃ A c, x = .agg #[.bool f, .slice A n c] ∧ n ≤ c ∧ c ≤ maxLen ∧ Bys w B A (be v n)
theorem RawIs.step {w w' : World} {x : Value} {f : Bool} {n v : Nat} (h : RawIs w w.heap.size x f n v) (hb : Below w.heap.size w w') : RawIs w' w'.heap.size x f n v := by
  obtain ⟨A, c, e, h1, h2, h3⟩ := h
  exact ⟨A, c, e, h1, h2, (h3.below hb).more hb.size⟩
theorem RawIs.look {w : World} {B : Nat} {x : Value} {f : Bool} {n v : Nat} (h : RawIs w B x f n v) : ∃ A c, x = .agg #[.bool f, .slice A n c] ∧ RawIs w B (.agg #[.bool f, .slice A n c]) f n v := by
  obtain ⟨A, c, rfl, h⟩ := h
  exact ⟨A, c, rfl, A, c, rfl, h⟩
theorem IntIs.raw {w : World} {B : Nat} {x : Value} {z : Int} (h : IntIs w B x z) : RawIs w B x (decide (z < 0)) (blen z.natAbs) z.natAbs := by
  obtain ⟨A, c, e, h1, h2, h3⟩ := h
  exact ⟨A, c, e, h1, h2, h3⟩
theorem nvalid_is {f : Bool} {n v : Nat} (x : Value) (w : World) (h : RawIs w w.heap.size x f n v) :
    Calls Tryd.prog 16 #[x] w fun e w' => e = .returned (.bool (validB f n v)) ∧ Below w.heap.size w w' := by
  obtain ⟨A, c, rfl, h1, h2, h3⟩ := h
  exact nvalid_raw f A n c v w.heap.size w h3 (Nat.le_refl _)
theorem rvalid_is {f : Bool} {n v : Nat} (x : Value) (w : World) (h : RawIs w w.heap.size x f n v) :
    Calls Tryd.prog 13 #[x] w fun e w' => e = .returned (.bool (validB f n v)) ∧ Below w.heap.size w w' := by
  obtain ⟨A, c, rfl, h1, h2, h3⟩ := h
  exact rvalid_raw f A n c v w.heap.size w h3 (Nat.le_refl _)
theorem nvalid_no {f : Bool} {n v : Nat} (x : Value) (w : World) (h : RawIs w w.heap.size x f n v) (hb : validB f n v = false) :
    Calls Tryd.prog 16 #[x] w fun e w' => e = .returned (.bool false) ∧ Below w.heap.size w w' := by
  have := nvalid_is x w h
  rwa [hb] at this

set_option maxHeartbeats 400000 in
theorem value_bad {f : Bool} {n v : Nat} (x : Value) (w : World) (hx : RawIs w w.heap.size x f n v) (h : validB f n v = false) :
    Calls Tryd.prog 14 #[x] w fun e w' => e = .returned (.tuple #[.int .i64 0, .int .i64 2]) ∧ Below w.heap.size w w' := by
  obtain ⟨A, c, rfl, hx⟩ := hx.look
  have hb := below_alloc w (.cells #[.bool f, .slice A n c] 24)
  have HV := Lib.hid (nvalid_no _ _ (hx.step hb) h)
  have HB := Lib.hid hb
  clear hx h hb
  go_enter Tryd.func14, Tryd.ntmps14
  go_wp2_with (fail)
  refine HV.out.mono ?_
  rintro e w1 ⟨rfl, q1⟩
  have HQ := Lib.hid (bstep HB.out q1)
  clear q1
  go_wp2
  go_ret2
  exact ⟨rfl, HQ.out⟩
set_option maxHeartbeats 400000 in
theorem digits10_bad {f : Bool} {n v : Nat} (x : Value) (w : World) (hx : RawIs w w.heap.size x f n v) (h : validB f n v = false) :
    Calls Tryd.prog 19 #[x] w fun e w' => e = .returned (.int .i64 0) ∧ Below w.heap.size w w' := by
  obtain ⟨A, c, rfl, hx⟩ := hx.look
  have hb := below_alloc w (.cells #[.bool f, .slice A n c] 24)
  have HV := Lib.hid (nvalid_no _ _ (hx.step hb) h)
  have HB := Lib.hid hb
  clear hx h hb
  go_enter Tryd.func19, Tryd.ntmps19
  go_wp2_with (fail)
  refine HV.out.mono ?_
  rintro e w1 ⟨rfl, q1⟩
  have HQ := Lib.hid (bstep HB.out q1)
  clear q1
  go_wp2
  go_ret
  exact ⟨rfl, HQ.out⟩
set_option maxHeartbeats 400000 in
theorem text_bad {f : Bool} {n v : Nat} (x : Value) (w : World) (hx : RawIs w w.heap.size x f n v) (h : validB f n v = false) :
    Calls Tryd.prog 20 #[x] w fun e w' => e = .returned (.string ⟨#[]⟩) ∧ Below w.heap.size w w' := by
  obtain ⟨A, c, rfl, hx⟩ := hx.look
  have hb := below_alloc w (.cells #[.bool f, .slice A n c] 24)
  have HV := Lib.hid (nvalid_no _ _ (hx.step hb) h)
  have HB := Lib.hid hb
  clear hx h hb
  go_enter Tryd.func20, Tryd.ntmps20
  go_wp2_with (fail)
  refine HV.out.mono ?_
  rintro e w1 ⟨rfl, q1⟩
  have HQ := Lib.hid (bstep HB.out q1)
  clear q1
  go_wp2
  go_ret
  exact ⟨rfl, HQ.out⟩
set_option maxHeartbeats 400000 in
theorem neg_bad {f : Bool} {n v : Nat} (x : Value) (w : World) (hx : RawIs w w.heap.size x f n v) (h : validB f n v = false) :
    Calls Tryd.prog 15 #[x] w (RetIntE w 0 2) := by
  obtain ⟨A, c, rfl, hx⟩ := hx.look
  obtain ⟨-, hv1, hb, -⟩ := boxes2 w 24 24 #[.bool f, .slice A n c] #[.bool false, .slice none 0 0]
  have HV := Lib.hid (nvalid_no _ _ (hx.step hb) h)
  have HB := Lib.hid hb
  have HV1 := Lib.hid hv1
  clear hx h hb hv1
  go_enter Tryd.func15, Tryd.ntmps15
  go_wp2_with (fail)
  refine HV.out.mono ?_
  rintro e w1 ⟨rfl, q1⟩
  have hv := HV1.out.below q1 HV1.out.lt
  have s0 := hv.cell 0; have s1 := hv.cell 1; have t0 := hv.free 0; have t1 := hv.free 1
  simp only [List.getElem?_toArray, List.getElem?_cons_succ, List.getElem?_cons_zero] at s0 s1
  have HX := Lib.hid (retIntE_store (er := 2) (intIs_zero _ _) hv (bstep HB.out q1) (Nat.le_succ _))
  clear q1 hv
  go_wp2_with (fail)
  exact bodyPost_ret (v := .tuple #[.agg #[.bool false, .slice none 0 0], .int .i64 2]) (by simp [results, Tryd.results15, go_sem, s0, s1]) rfl HX.out
set_option maxHeartbeats 400000 in
theorem power_bad {f : Bool} {n v : Nat} (x : Value) (m : Int) (w : World) (hx : RawIs w w.heap.size x f n v) (h : validB f n v = false) :
    Calls Tryd.prog 37 #[x, .int .i64 m] w (RetIntE w 0 2) := by
  obtain ⟨A, c, rfl, hx⟩ := hx.look
  obtain ⟨-, hv1, hb, -⟩ := boxes2 w 24 24 #[.bool f, .slice A n c] #[.bool false, .slice none 0 0]
  have HV := Lib.hid (nvalid_no _ _ (hx.step hb) h)
  have HB := Lib.hid hb
  have HV1 := Lib.hid hv1
  clear hx h hb hv1
  go_enter Tryd.func37, Tryd.ntmps37
  go_wp2_with (fail)
  refine HV.out.mono ?_
  rintro e w1 ⟨rfl, q1⟩
  have hv := HV1.out.below q1 HV1.out.lt
  have s0 := hv.cell 0; have s1 := hv.cell 1; have t0 := hv.free 0; have t1 := hv.free 1
  simp only [List.getElem?_toArray, List.getElem?_cons_succ, List.getElem?_cons_zero] at s0 s1
  have HX := Lib.hid (retIntE_store (er := 2) (intIs_zero _ _) hv (bstep HB.out q1) (Nat.le_succ _))
  clear q1 hv
  go_wp2_with (fail)
  exact bodyPost_ret (v := .tuple #[.agg #[.bool false, .slice none 0 0], .int .i64 2]) (by simp [results, Tryd.results37, go_sem, s0, s1]) rfl HX.out
end Go.Proofs.YtnkklmbmodkogaaDoor

/-! Bad2 -/
namespace Go.Proofs.YtnkklmbmodkogaaDoor
open Go.RowKit

set_option maxHeartbeats 1000000 in
theorem add_bad1 {f f' : Bool} {n v n' v' : Nat} (x y : Value) (w : World) (hx : RawIs w w.heap.size x f n v) (h : validB f n v = false) (hy : RawIs w w.heap.size y f' n' v') :
    Calls Tryd.prog 26 #[x, y] w (RetIntE w 0 2) := by
  obtain ⟨A, c, rfl, hx⟩ := hx.look
  obtain ⟨A', c', rfl, hy⟩ := hy.look
  obtain ⟨v0, v1, v2, hb, hsz⟩ := boxes3 w 24 24 24 #[.bool f, .slice A n c] #[.bool f', .slice A' n' c'] #[.bool false, .slice none 0 0]
  have HX := Lib.hid (hx.step hb)
  have HY := Lib.hid (hy.step hb)
  have HB := Lib.hid hb
  have H := Lib.hid h
  clear hx hy h hb
  go_enter Tryd.func26, Tryd.ntmps26
  go_wp2_with (fail)
  generalize ((w.alloc (.cells #[.bool f, .slice A n c] 24)).alloc (.cells #[.bool f', .slice A' n' c'] 24)).alloc (.cells #[.bool false, .slice none 0 0] 24) = W at *
  refine (nvalid_no _ _ HX.out H.out).mono ?_
  rintro e w2 ⟨rfl, q12⟩
  have hv := v2.below q12 (by omega)
  have s0 := hv.cell 0; have s1 := hv.cell 1; have t0 := hv.free 0; have t1 := hv.free 1
  simp only [List.getElem?_toArray, List.getElem?_cons_succ, List.getElem?_cons_zero] at s0 s1
  have HXX := Lib.hid (retIntE_store (er := 2) (intIs_zero _ _) hv (HB.out.trans (q12.mono (by omega))) (by omega))
  clear q12 hv
  go_wp2_with (fail)
  exact bodyPost_ret (v := .tuple #[.agg #[.bool false, .slice none 0 0], .int .i64 2]) (by simp [results, Tryd.results26, go_sem, s0, s1]) rfl HXX.out
set_option maxHeartbeats 1000000 in
theorem add_bad2 {f f' : Bool} {n v n' v' : Nat} (x y : Value) (w : World) (hx : RawIs w w.heap.size x f n v) (h0 : validB f n v = true) (hy : RawIs w w.heap.size y f' n' v') (h : validB f' n' v' = false) :
    Calls Tryd.prog 26 #[x, y] w (RetIntE w 0 2) := by
  obtain ⟨A, c, rfl, hx⟩ := hx.look
  obtain ⟨A', c', rfl, hy⟩ := hy.look
  obtain ⟨v0, v1, v2, hb, hsz⟩ := boxes3 w 24 24 24 #[.bool f, .slice A n c] #[.bool f', .slice A' n' c'] #[.bool false, .slice none 0 0]
  have HX := Lib.hid (hx.step hb)
  have HY := Lib.hid (hy.step hb)
  have HB := Lib.hid hb
  have H := Lib.hid h
  have H0 := Lib.hid h0
  clear hx hy h hb h0
  go_enter Tryd.func26, Tryd.ntmps26
  go_wp2_with (fail)
  generalize ((w.alloc (.cells #[.bool f, .slice A n c] 24)).alloc (.cells #[.bool f', .slice A' n' c'] 24)).alloc (.cells #[.bool false, .slice none 0 0] 24) = W at *
  refine (nvalid_is _ _ HX.out).mono ?_
  rw [H0.out]
  rintro e w1 ⟨rfl, q1⟩
  have HY1 := Lib.hid (HY.out.step q1)
  have r0 := (v1.below q1 (by omega)).cell 0
  have r1 := (v1.below q1 (by omega)).cell 1
  simp only [List.getElem?_toArray, List.getElem?_cons_succ, List.getElem?_cons_zero] at r0 r1
  go_wp2_with (fail)
  refine (nvalid_no _ _ HY1.out H.out).mono ?_
  rintro e w2 ⟨rfl, q2⟩
  have q12 := bstep q1 q2
  clear r0 r1
  have hv := v2.below q12 (by omega)
  have s0 := hv.cell 0; have s1 := hv.cell 1; have t0 := hv.free 0; have t1 := hv.free 1
  simp only [List.getElem?_toArray, List.getElem?_cons_succ, List.getElem?_cons_zero] at s0 s1
  have HXX := Lib.hid (retIntE_store (er := 2) (intIs_zero _ _) hv (HB.out.trans (q12.mono (by omega))) (by omega))
  clear q12 hv
  go_wp2_with (fail)
  exact bodyPost_ret (v := .tuple #[.agg #[.bool false, .slice none 0 0], .int .i64 2]) (by simp [results, Tryd.results26, go_sem, s0, s1]) rfl HXX.out
set_option maxHeartbeats 1000000 in
theorem sub_bad1 {f f' : Bool} {n v n' v' : Nat} (x y : Value) (w : World) (hx : RawIs w w.heap.size x f n v) (h : validB f n v = false) (hy : RawIs w w.heap.size y f' n' v') :
    Calls Tryd.prog 27 #[x, y] w (RetIntE w 0 2) := by
  obtain ⟨A, c, rfl, hx⟩ := hx.look
  obtain ⟨A', c', rfl, hy⟩ := hy.look
  obtain ⟨v0, v1, v2, hb, hsz⟩ := boxes3 w 24 24 24 #[.bool f, .slice A n c] #[.bool f', .slice A' n' c'] #[.bool false, .slice none 0 0]
  have HX := Lib.hid (hx.step hb)
  have HY := Lib.hid (hy.step hb)
  have HB := Lib.hid hb
  have H := Lib.hid h
  clear hx hy h hb
  go_enter Tryd.func27, Tryd.ntmps27
  go_wp2_with (fail)
  generalize ((w.alloc (.cells #[.bool f, .slice A n c] 24)).alloc (.cells #[.bool f', .slice A' n' c'] 24)).alloc (.cells #[.bool false, .slice none 0 0] 24) = W at *
  refine (nvalid_no _ _ HX.out H.out).mono ?_
  rintro e w2 ⟨rfl, q12⟩
  have hv := v2.below q12 (by omega)
  have s0 := hv.cell 0; have s1 := hv.cell 1; have t0 := hv.free 0; have t1 := hv.free 1
  simp only [List.getElem?_toArray, List.getElem?_cons_succ, List.getElem?_cons_zero] at s0 s1
  have HXX := Lib.hid (retIntE_store (er := 2) (intIs_zero _ _) hv (HB.out.trans (q12.mono (by omega))) (by omega))
  clear q12 hv
  go_wp2_with (fail)
  exact bodyPost_ret (v := .tuple #[.agg #[.bool false, .slice none 0 0], .int .i64 2]) (by simp [results, Tryd.results27, go_sem, s0, s1]) rfl HXX.out
set_option maxHeartbeats 1000000 in
theorem sub_bad2 {f f' : Bool} {n v n' v' : Nat} (x y : Value) (w : World) (hx : RawIs w w.heap.size x f n v) (h0 : validB f n v = true) (hy : RawIs w w.heap.size y f' n' v') (h : validB f' n' v' = false) :
    Calls Tryd.prog 27 #[x, y] w (RetIntE w 0 2) := by
  obtain ⟨A, c, rfl, hx⟩ := hx.look
  obtain ⟨A', c', rfl, hy⟩ := hy.look
  obtain ⟨v0, v1, v2, hb, hsz⟩ := boxes3 w 24 24 24 #[.bool f, .slice A n c] #[.bool f', .slice A' n' c'] #[.bool false, .slice none 0 0]
  have HX := Lib.hid (hx.step hb)
  have HY := Lib.hid (hy.step hb)
  have HB := Lib.hid hb
  have H := Lib.hid h
  have H0 := Lib.hid h0
  clear hx hy h hb h0
  go_enter Tryd.func27, Tryd.ntmps27
  go_wp2_with (fail)
  generalize ((w.alloc (.cells #[.bool f, .slice A n c] 24)).alloc (.cells #[.bool f', .slice A' n' c'] 24)).alloc (.cells #[.bool false, .slice none 0 0] 24) = W at *
  refine (nvalid_is _ _ HX.out).mono ?_
  rw [H0.out]
  rintro e w1 ⟨rfl, q1⟩
  have HY1 := Lib.hid (HY.out.step q1)
  have r0 := (v1.below q1 (by omega)).cell 0
  have r1 := (v1.below q1 (by omega)).cell 1
  simp only [List.getElem?_toArray, List.getElem?_cons_succ, List.getElem?_cons_zero] at r0 r1
  go_wp2_with (fail)
  refine (nvalid_no _ _ HY1.out H.out).mono ?_
  rintro e w2 ⟨rfl, q2⟩
  have q12 := bstep q1 q2
  clear r0 r1
  have hv := v2.below q12 (by omega)
  have s0 := hv.cell 0; have s1 := hv.cell 1; have t0 := hv.free 0; have t1 := hv.free 1
  simp only [List.getElem?_toArray, List.getElem?_cons_succ, List.getElem?_cons_zero] at s0 s1
  have HXX := Lib.hid (retIntE_store (er := 2) (intIs_zero _ _) hv (HB.out.trans (q12.mono (by omega))) (by omega))
  clear q12 hv
  go_wp2_with (fail)
  exact bodyPost_ret (v := .tuple #[.agg #[.bool false, .slice none 0 0], .int .i64 2]) (by simp [results, Tryd.results27, go_sem, s0, s1]) rfl HXX.out
set_option maxHeartbeats 1000000 in
theorem mul_bad1 {f f' : Bool} {n v n' v' : Nat} (x y : Value) (w : World) (hx : RawIs w w.heap.size x f n v) (h : validB f n v = false) (hy : RawIs w w.heap.size y f' n' v') :
    Calls Tryd.prog 28 #[x, y] w (RetIntE w 0 2) := by
  obtain ⟨A, c, rfl, hx⟩ := hx.look
  obtain ⟨A', c', rfl, hy⟩ := hy.look
  obtain ⟨v0, v1, v2, hb, hsz⟩ := boxes3 w 24 24 24 #[.bool f, .slice A n c] #[.bool f', .slice A' n' c'] #[.bool false, .slice none 0 0]
  have HX := Lib.hid (hx.step hb)
  have HY := Lib.hid (hy.step hb)
  have HB := Lib.hid hb
  have H := Lib.hid h
  clear hx hy h hb
  go_enter Tryd.func28, Tryd.ntmps28
  go_wp2_with (fail)
  generalize ((w.alloc (.cells #[.bool f, .slice A n c] 24)).alloc (.cells #[.bool f', .slice A' n' c'] 24)).alloc (.cells #[.bool false, .slice none 0 0] 24) = W at *
  refine (nvalid_no _ _ HX.out H.out).mono ?_
  rintro e w2 ⟨rfl, q12⟩
  have hv := v2.below q12 (by omega)
  have s0 := hv.cell 0; have s1 := hv.cell 1; have t0 := hv.free 0; have t1 := hv.free 1
  simp only [List.getElem?_toArray, List.getElem?_cons_succ, List.getElem?_cons_zero] at s0 s1
  have HXX := Lib.hid (retIntE_store (er := 2) (intIs_zero _ _) hv (HB.out.trans (q12.mono (by omega))) (by omega))
  clear q12 hv
  go_wp2_with (fail)
  exact bodyPost_ret (v := .tuple #[.agg #[.bool false, .slice none 0 0], .int .i64 2]) (by simp [results, Tryd.results28, go_sem, s0, s1]) rfl HXX.out
set_option maxHeartbeats 1000000 in
theorem mul_bad2 {f f' : Bool} {n v n' v' : Nat} (x y : Value) (w : World) (hx : RawIs w w.heap.size x f n v) (h0 : validB f n v = true) (hy : RawIs w w.heap.size y f' n' v') (h : validB f' n' v' = false) :
    Calls Tryd.prog 28 #[x, y] w (RetIntE w 0 2) := by
  obtain ⟨A, c, rfl, hx⟩ := hx.look
  obtain ⟨A', c', rfl, hy⟩ := hy.look
  obtain ⟨v0, v1, v2, hb, hsz⟩ := boxes3 w 24 24 24 #[.bool f, .slice A n c] #[.bool f', .slice A' n' c'] #[.bool false, .slice none 0 0]
  have HX := Lib.hid (hx.step hb)
  have HY := Lib.hid (hy.step hb)
  have HB := Lib.hid hb
  have H := Lib.hid h
  have H0 := Lib.hid h0
  clear hx hy h hb h0
  go_enter Tryd.func28, Tryd.ntmps28
  go_wp2_with (fail)
  generalize ((w.alloc (.cells #[.bool f, .slice A n c] 24)).alloc (.cells #[.bool f', .slice A' n' c'] 24)).alloc (.cells #[.bool false, .slice none 0 0] 24) = W at *
  refine (nvalid_is _ _ HX.out).mono ?_
  rw [H0.out]
  rintro e w1 ⟨rfl, q1⟩
  have HY1 := Lib.hid (HY.out.step q1)
  have r0 := (v1.below q1 (by omega)).cell 0
  have r1 := (v1.below q1 (by omega)).cell 1
  simp only [List.getElem?_toArray, List.getElem?_cons_succ, List.getElem?_cons_zero] at r0 r1
  go_wp2_with (fail)
  refine (nvalid_no _ _ HY1.out H.out).mono ?_
  rintro e w2 ⟨rfl, q2⟩
  have q12 := bstep q1 q2
  clear r0 r1
  have hv := v2.below q12 (by omega)
  have s0 := hv.cell 0; have s1 := hv.cell 1; have t0 := hv.free 0; have t1 := hv.free 1
  simp only [List.getElem?_toArray, List.getElem?_cons_succ, List.getElem?_cons_zero] at s0 s1
  have HXX := Lib.hid (retIntE_store (er := 2) (intIs_zero _ _) hv (HB.out.trans (q12.mono (by omega))) (by omega))
  clear q12 hv
  go_wp2_with (fail)
  exact bodyPost_ret (v := .tuple #[.agg #[.bool false, .slice none 0 0], .int .i64 2]) (by simp [results, Tryd.results28, go_sem, s0, s1]) rfl HXX.out
set_option maxHeartbeats 1000000 in
theorem cmp_bad1 {f f' : Bool} {n v n' v' : Nat} (x y : Value) (w : World) (hx : RawIs w w.heap.size x f n v) (h : validB f n v = false) (hy : RawIs w w.heap.size y f' n' v') :
    Calls Tryd.prog 29 #[x, y] w fun e w' => e = .returned (.int .i64 0) ∧ Below w.heap.size w w' := by
  obtain ⟨A, c, rfl, hx⟩ := hx.look
  obtain ⟨A', c', rfl, hy⟩ := hy.look
  obtain ⟨v0, v1, hb, hsz⟩ := boxes2 w 24 24 #[.bool f, .slice A n c] #[.bool f', .slice A' n' c']
  have HX := Lib.hid (hx.step hb)
  have HY := Lib.hid (hy.step hb)
  have HB := Lib.hid hb
  have H := Lib.hid h
  clear hx hy h hb
  go_enter Tryd.func29, Tryd.ntmps29
  go_wp2_with (fail)
  generalize (w.alloc (.cells #[.bool f, .slice A n c] 24)).alloc (.cells #[.bool f', .slice A' n' c'] 24) = W at *
  refine (nvalid_no _ _ HX.out H.out).mono ?_
  rintro e w2 ⟨rfl, q12⟩
  have HQ := Lib.hid (HB.out.trans (q12.mono (by omega)))
  clear q12
  go_wp2
  go_ret
  exact ⟨rfl, HQ.out⟩
set_option maxHeartbeats 1000000 in
theorem cmp_bad2 {f f' : Bool} {n v n' v' : Nat} (x y : Value) (w : World) (hx : RawIs w w.heap.size x f n v) (h0 : validB f n v = true) (hy : RawIs w w.heap.size y f' n' v') (h : validB f' n' v' = false) :
    Calls Tryd.prog 29 #[x, y] w fun e w' => e = .returned (.int .i64 0) ∧ Below w.heap.size w w' := by
  obtain ⟨A, c, rfl, hx⟩ := hx.look
  obtain ⟨A', c', rfl, hy⟩ := hy.look
  obtain ⟨v0, v1, hb, hsz⟩ := boxes2 w 24 24 #[.bool f, .slice A n c] #[.bool f', .slice A' n' c']
  have HX := Lib.hid (hx.step hb)
  have HY := Lib.hid (hy.step hb)
  have HB := Lib.hid hb
  have H := Lib.hid h
  have H0 := Lib.hid h0
  clear hx hy h hb h0
  go_enter Tryd.func29, Tryd.ntmps29
  go_wp2_with (fail)
  generalize (w.alloc (.cells #[.bool f, .slice A n c] 24)).alloc (.cells #[.bool f', .slice A' n' c'] 24) = W at *
  refine (nvalid_is _ _ HX.out).mono ?_
  rw [H0.out]
  rintro e w1 ⟨rfl, q1⟩
  have HY1 := Lib.hid (HY.out.step q1)
  have r0 := (v1.below q1 (by omega)).cell 0
  have r1 := (v1.below q1 (by omega)).cell 1
  simp only [List.getElem?_toArray, List.getElem?_cons_succ, List.getElem?_cons_zero] at r0 r1
  go_wp2_with (fail)
  refine (nvalid_no _ _ HY1.out H.out).mono ?_
  rintro e w2 ⟨rfl, q2⟩
  have q12 := bstep q1 q2
  clear r0 r1
  have HQ := Lib.hid (HB.out.trans (q12.mono (by omega)))
  clear q12
  go_wp2
  go_ret
  exact ⟨rfl, HQ.out⟩
set_option maxHeartbeats 1000000 in
theorem divMod_bad1 {f f' : Bool} {n v n' v' : Nat} (x y : Value) (w : World) (hx : RawIs w w.heap.size x f n v) (h : validB f n v = false) (hy : RawIs w w.heap.size y f' n' v') :
    Calls Tryd.prog 33 #[x, y] w (Ret2 w 0 0 2) := by
  obtain ⟨A, c, rfl, hx⟩ := hx.look
  obtain ⟨A', c', rfl, hy⟩ := hy.look
  obtain ⟨v0, v1, v2, v3, hb, hsz⟩ := boxes4 w 24 24 24 24 #[.bool f, .slice A n c] #[.bool f', .slice A' n' c'] #[.bool false, .slice none 0 0] #[.bool false, .slice none 0 0]
  have HX := Lib.hid (hx.step hb)
  have HY := Lib.hid (hy.step hb)
  have HB := Lib.hid hb
  have H := Lib.hid h
  clear hx hy h hb
  go_enter Tryd.func33, Tryd.ntmps33
  go_wp2_with (fail)
  generalize (((w.alloc (.cells #[.bool f, .slice A n c] 24)).alloc (.cells #[.bool f', .slice A' n' c'] 24)).alloc (.cells #[.bool false, .slice none 0 0] 24)).alloc (.cells #[.bool false, .slice none 0 0] 24) = W at *
  refine (nvalid_no _ _ HX.out H.out).mono ?_
  rintro e w2 ⟨rfl, q12⟩
  have hv := v2.below q12 (by omega)
  have hv3 := v3.below q12 (by omega)
  have s0 := hv.cell 0; have s1 := hv.cell 1; have t0 := hv.free 0; have t1 := hv.free 1
  have s2 := hv3.cell 0; have s3 := hv3.cell 1; have t2 := hv3.free 0; have t3 := hv3.free 1
  simp only [List.getElem?_toArray, List.getElem?_cons_succ, List.getElem?_cons_zero] at s0 s1 s2 s3
  have HXX := Lib.hid (ret2_store (er := 2) (intIs_zero _ _) (intIs_zero _ _) hv hv3 (by omega) (HB.out.trans (q12.mono (by omega))) (by omega) (by omega))
  clear q12 hv hv3
  go_wp2_with (fail)
  exact bodyPost_ret (v := .tuple #[.agg #[.bool false, .slice none 0 0], .agg #[.bool false, .slice none 0 0], .int .i64 2]) (by simp [results, Tryd.results33, go_sem, s0, s1, s2, s3]) rfl HXX.out
set_option maxHeartbeats 1000000 in
theorem divMod_bad2 {f f' : Bool} {n v n' v' : Nat} (x y : Value) (w : World) (hx : RawIs w w.heap.size x f n v) (h0 : validB f n v = true) (hy : RawIs w w.heap.size y f' n' v') (h : validB f' n' v' = false) :
    Calls Tryd.prog 33 #[x, y] w (Ret2 w 0 0 2) := by
  obtain ⟨A, c, rfl, hx⟩ := hx.look
  obtain ⟨A', c', rfl, hy⟩ := hy.look
  obtain ⟨v0, v1, v2, v3, hb, hsz⟩ := boxes4 w 24 24 24 24 #[.bool f, .slice A n c] #[.bool f', .slice A' n' c'] #[.bool false, .slice none 0 0] #[.bool false, .slice none 0 0]
  have HX := Lib.hid (hx.step hb)
  have HY := Lib.hid (hy.step hb)
  have HB := Lib.hid hb
  have H := Lib.hid h
  have H0 := Lib.hid h0
  clear hx hy h hb h0
  go_enter Tryd.func33, Tryd.ntmps33
  go_wp2_with (fail)
  generalize (((w.alloc (.cells #[.bool f, .slice A n c] 24)).alloc (.cells #[.bool f', .slice A' n' c'] 24)).alloc (.cells #[.bool false, .slice none 0 0] 24)).alloc (.cells #[.bool false, .slice none 0 0] 24) = W at *
  refine (nvalid_is _ _ HX.out).mono ?_
  rw [H0.out]
  rintro e w1 ⟨rfl, q1⟩
  have HY1 := Lib.hid (HY.out.step q1)
  have r0 := (v1.below q1 (by omega)).cell 0
  have r1 := (v1.below q1 (by omega)).cell 1
  simp only [List.getElem?_toArray, List.getElem?_cons_succ, List.getElem?_cons_zero] at r0 r1
  go_wp2_with (fail)
  refine (nvalid_no _ _ HY1.out H.out).mono ?_
  rintro e w2 ⟨rfl, q2⟩
  have q12 := bstep q1 q2
  clear r0 r1
  have hv := v2.below q12 (by omega)
  have hv3 := v3.below q12 (by omega)
  have s0 := hv.cell 0; have s1 := hv.cell 1; have t0 := hv.free 0; have t1 := hv.free 1
  have s2 := hv3.cell 0; have s3 := hv3.cell 1; have t2 := hv3.free 0; have t3 := hv3.free 1
  simp only [List.getElem?_toArray, List.getElem?_cons_succ, List.getElem?_cons_zero] at s0 s1 s2 s3
  have HXX := Lib.hid (ret2_store (er := 2) (intIs_zero _ _) (intIs_zero _ _) hv hv3 (by omega) (HB.out.trans (q12.mono (by omega))) (by omega) (by omega))
  clear q12 hv hv3
  go_wp2_with (fail)
  exact bodyPost_ret (v := .tuple #[.agg #[.bool false, .slice none 0 0], .agg #[.bool false, .slice none 0 0], .int .i64 2]) (by simp [results, Tryd.results33, go_sem, s0, s1, s2, s3]) rfl HXX.out
set_option maxHeartbeats 1000000 in
theorem gcd_bad1 {f f' : Bool} {n v n' v' : Nat} (x y : Value) (w : World) (hx : RawIs w w.heap.size x f n v) (h : validB f n v = false) (hy : RawIs w w.heap.size y f' n' v') :
    Calls Tryd.prog 34 #[x, y] w (RetIntE w 0 2) := by
  obtain ⟨A, c, rfl, hx⟩ := hx.look
  obtain ⟨A', c', rfl, hy⟩ := hy.look
  obtain ⟨v0, v1, v2, hb, hsz⟩ := boxes3 w 24 24 24 #[.bool f, .slice A n c] #[.bool f', .slice A' n' c'] #[.bool false, .slice none 0 0]
  have HX := Lib.hid (hx.step hb)
  have HY := Lib.hid (hy.step hb)
  have HB := Lib.hid hb
  have H := Lib.hid h
  clear hx hy h hb
  go_enter Tryd.func34, Tryd.ntmps34
  go_wp2_with (fail)
  generalize ((w.alloc (.cells #[.bool f, .slice A n c] 24)).alloc (.cells #[.bool f', .slice A' n' c'] 24)).alloc (.cells #[.bool false, .slice none 0 0] 24) = W at *
  refine (nvalid_no _ _ HX.out H.out).mono ?_
  rintro e w2 ⟨rfl, q12⟩
  have hv := v2.below q12 (by omega)
  have s0 := hv.cell 0; have s1 := hv.cell 1; have t0 := hv.free 0; have t1 := hv.free 1
  simp only [List.getElem?_toArray, List.getElem?_cons_succ, List.getElem?_cons_zero] at s0 s1
  have HXX := Lib.hid (retIntE_store (er := 2) (intIs_zero _ _) hv (HB.out.trans (q12.mono (by omega))) (by omega))
  clear q12 hv
  go_wp2_with (fail)
  exact bodyPost_ret (v := .tuple #[.agg #[.bool false, .slice none 0 0], .int .i64 2]) (by simp [results, Tryd.results34, go_sem, s0, s1]) rfl HXX.out
set_option maxHeartbeats 1000000 in
theorem gcd_bad2 {f f' : Bool} {n v n' v' : Nat} (x y : Value) (w : World) (hx : RawIs w w.heap.size x f n v) (h0 : validB f n v = true) (hy : RawIs w w.heap.size y f' n' v') (h : validB f' n' v' = false) :
    Calls Tryd.prog 34 #[x, y] w (RetIntE w 0 2) := by
  obtain ⟨A, c, rfl, hx⟩ := hx.look
  obtain ⟨A', c', rfl, hy⟩ := hy.look
  obtain ⟨v0, v1, v2, hb, hsz⟩ := boxes3 w 24 24 24 #[.bool f, .slice A n c] #[.bool f', .slice A' n' c'] #[.bool false, .slice none 0 0]
  have HX := Lib.hid (hx.step hb)
  have HY := Lib.hid (hy.step hb)
  have HB := Lib.hid hb
  have H := Lib.hid h
  have H0 := Lib.hid h0
  clear hx hy h hb h0
  go_enter Tryd.func34, Tryd.ntmps34
  go_wp2_with (fail)
  generalize ((w.alloc (.cells #[.bool f, .slice A n c] 24)).alloc (.cells #[.bool f', .slice A' n' c'] 24)).alloc (.cells #[.bool false, .slice none 0 0] 24) = W at *
  refine (nvalid_is _ _ HX.out).mono ?_
  rw [H0.out]
  rintro e w1 ⟨rfl, q1⟩
  have HY1 := Lib.hid (HY.out.step q1)
  have r0 := (v1.below q1 (by omega)).cell 0
  have r1 := (v1.below q1 (by omega)).cell 1
  simp only [List.getElem?_toArray, List.getElem?_cons_succ, List.getElem?_cons_zero] at r0 r1
  go_wp2_with (fail)
  refine (nvalid_no _ _ HY1.out H.out).mono ?_
  rintro e w2 ⟨rfl, q2⟩
  have q12 := bstep q1 q2
  clear r0 r1
  have hv := v2.below q12 (by omega)
  have s0 := hv.cell 0; have s1 := hv.cell 1; have t0 := hv.free 0; have t1 := hv.free 1
  simp only [List.getElem?_toArray, List.getElem?_cons_succ, List.getElem?_cons_zero] at s0 s1
  have HXX := Lib.hid (retIntE_store (er := 2) (intIs_zero _ _) hv (HB.out.trans (q12.mono (by omega))) (by omega))
  clear q12 hv
  go_wp2_with (fail)
  exact bodyPost_ret (v := .tuple #[.agg #[.bool false, .slice none 0 0], .int .i64 2]) (by simp [results, Tryd.results34, go_sem, s0, s1]) rfl HXX.out
set_option maxHeartbeats 1000000 in
theorem divMod_zero (x y : Value) (a : Int) (w : World) (hx : IntIs w w.heap.size x a) (hy : IntIs w w.heap.size y 0) (ha : blen a.natAbs ≤ 64) :
    Calls Tryd.prog 33 #[x, y] w (Ret2 w 0 0 2) := by
  obtain ⟨f, A, n, c, rfl, hx, -, -⟩ := hx.look
  obtain ⟨f', A', n', c', rfl, hy, -, hn'⟩ := hy.look
  obtain rfl : n' = 0 := by rw [hn']; exact blen_zero
  obtain ⟨v0, v1, v2, v3, hb, hsz⟩ := boxes4 w 24 24 24 24 #[.bool f, .slice A n c] #[.bool f', .slice A' 0 c'] #[.bool false, .slice none 0 0] #[.bool false, .slice none 0 0]
  have HX := Lib.hid (hx.step hb)
  have HY := Lib.hid (hy.step hb)
  have HB := Lib.hid hb
  have HA := Lib.hid ha
  clear hx hy hb ha hn'
  go_enter Tryd.func33, Tryd.ntmps33
  go_wp2_with (fail)
  generalize (((w.alloc (.cells #[.bool f, .slice A n c] 24)).alloc (.cells #[.bool f', .slice A' 0 c'] 24)).alloc (.cells #[.bool false, .slice none 0 0] 24)).alloc (.cells #[.bool false, .slice none 0 0] 24) = W at *
  refine (valid_int _ a W HX.out HA.out).mono ?_
  rintro e w1 ⟨rfl, q1⟩
  have HY1 := Lib.hid (HY.out.step q1)
  have r0 := (v1.below q1 (by omega)).cell 0
  have r1 := (v1.below q1 (by omega)).cell 1
  simp only [List.getElem?_toArray, List.getElem?_cons_succ, List.getElem?_cons_zero] at r0 r1
  go_wp2_with (fail)
  refine (valid_int _ 0 _ HY1.out (by simp [blen_zero])).mono ?_
  rintro e w2 ⟨rfl, q2⟩
  have q12 := bstep q1 q2
  clear r0 r1
  have r1 := (v1.below q12 (by omega)).cell 1
  simp only [List.getElem?_toArray, List.getElem?_cons_succ, List.getElem?_cons_zero] at r1
  have hv := v2.below q12 (by omega)
  have hv3 := v3.below q12 (by omega)
  have s0 := hv.cell 0; have s1 := hv.cell 1; have t0 := hv.free 0; have t1 := hv.free 1
  have s2 := hv3.cell 0; have s3 := hv3.cell 1; have t2 := hv3.free 0; have t3 := hv3.free 1
  simp only [List.getElem?_toArray, List.getElem?_cons_succ, List.getElem?_cons_zero] at s0 s1 s2 s3
  have HXX := Lib.hid (ret2_store (er := 2) (intIs_zero _ _) (intIs_zero _ _) hv hv3 (by omega) (HB.out.trans (q12.mono (by omega))) (by omega) (by omega))
  clear q12 hv hv3
  go_wp2_with (fail)
  exact bodyPost_ret (v := .tuple #[.agg #[.bool false, .slice none 0 0], .agg #[.bool false, .slice none 0 0], .int .i64 2]) (by simp [results, Tryd.results33, go_sem, s0, s1, s2, s3]) rfl HXX.out
end Go.Proofs.YtnkklmbmodkogaaDoor

/-! K1 -/
namespace Go.Proofs.YtnkklmbmodkogaaDoor
open Go.RowKit

/-- Block b is a variable that holds the Int of z. -/
def IntVar (w : World) (b : Nat) (f : Bool) (A : Option Addr) (n c : Nat) (z : Int) : Prop := Var w b 24 #[.bool f, .slice A n c] ∧ IntIs w w.heap.size (.agg #[.bool f, .slice A n c]) z
theorem IntVar.step {w w' : World} {b : Nat} {f : Bool} {A : Option Addr} {n c : Nat} {z : Int} (h : IntVar w b f A n c z) (hb : Below w.heap.size w w') : IntVar w' b f A n c z := ⟨h.1.below hb h.1.lt, h.2.step hb⟩
theorem IntVar.new {w : World} {f : Bool} {A : Option Addr} {n c : Nat} {z : Int} (h : IntIs w w.heap.size (.agg #[.bool f, .slice A n c]) z) : IntVar (w.alloc (.cells #[.bool f, .slice A n c] 24)) w.heap.size f A n c z :=
  ⟨Var.new w _ _, h.step (below_alloc w _)⟩
theorem IntVar.cells {w : World} {b : Nat} {f : Bool} {A : Option Addr} {n c : Nat} {z : Int} (h : IntVar w b f A n c z) : w.cell? ⟨b, 0, none⟩ = some (.bool f) ∧ w.cell? ⟨b, 1, none⟩ = some (.slice A n c) :=
  ⟨by have := h.1.cell 0; simpa using this, by have := h.1.cell 1; simpa using this⟩
theorem IntVar.cells' {w w' : World} {b : Nat} {f : Bool} {A : Option Addr} {n c : Nat} {z : Int} (h : IntVar w b f A n c z) (hb : Below w.heap.size w w') : w'.cell? ⟨b, 0, none⟩ = some (.bool f) ∧ w'.cell? ⟨b, 1, none⟩ = some (.slice A n c) :=
  (h.step hb).cells
theorem IntVar.two {w : World} {f f' : Bool} {A A' : Option Addr} {n c n' c' : Nat} {z z' : Int} (h : IntIs w w.heap.size (.agg #[.bool f, .slice A n c]) z) (h' : IntIs w w.heap.size (.agg #[.bool f', .slice A' n' c']) z') :
    IntVar ((w.alloc (.cells #[.bool f, .slice A n c] 24)).alloc (.cells #[.bool f', .slice A' n' c'] 24)) w.heap.size f A n c z ∧
    IntVar ((w.alloc (.cells #[.bool f, .slice A n c] 24)).alloc (.cells #[.bool f', .slice A' n' c'] 24)) (w.heap.size + 1) f' A' n' c' z' ∧
    Below w.heap.size w ((w.alloc (.cells #[.bool f, .slice A n c] 24)).alloc (.cells #[.bool f', .slice A' n' c'] 24)) := by
  have k := IntVar.new h
  have k' := IntVar.new (h'.step (below_alloc w (.cells #[.bool f, .slice A n c] 24)))
  refine ⟨k.step (below_alloc _ _), ?_, bal (below_alloc w _) _⟩
  simpa using k'

theorem of_lit (n : Int) (w : World) (h : -9223372036854775808 ≤ n ∧ n ≤ 9223372036854775807) : Calls Tryd.prog 23 #[.int .i64 n] w (RetInt w n) := of_int n w h.1 h.2
theorem divMod_lit (x y : Value) (a b : Int) (zq zr : Int) (w : World) (hx : IntIs w w.heap.size x a) (hy : IntIs w w.heap.size y b) (ha : blen a.natAbs ≤ 64) (hb : blen b.natAbs ≤ 64) (hb0 : b ≠ 0) (hbs : b.natAbs < 18446744073709551616)
    (e1 : sgn (decide (a < 0) != decide (b < 0)) (dmU (decide (a < 0) != decide (b < 0)) a.natAbs b.natAbs) = zq) (e2 : sgn (decide (b < 0)) (dmR (decide (a < 0) != decide (b < 0)) a.natAbs b.natAbs) = zr) :
    Calls Tryd.prog 33 #[x, y] w (Ret2 w zq zr 0) := by
  have := divMod_int x y a b w hx hy ha hb hb0 (divOK_small (abs_lt ha) (by omega) hbs)
  rwa [e1, e2] at this
theorem blen_small {v : Nat} (h : v < 256 ^ 8) : blen v ≤ 64 := Nat.le_trans (blen_le h) (by omega)

/-- The Int with the digits 0 and 1, which is not valid. -/
theorem raw01 (w : World) (T : TypeId) : RawIs (w.alloc (.cells #[.int .u8 0, .int .u8 1] T)) (w.alloc (.cells #[.int .u8 0, .int .u8 1] T)).heap.size (.agg #[.bool false, .slice (some ⟨w.heap.size, 0, none⟩) 2 2]) false 2 1 ∧
    Below w.heap.size w (w.alloc (.cells #[.int .u8 0, .int .u8 1] T)) := by
  refine ⟨⟨_, 2, rfl, by omega, by decide, fun _ => ⟨w.heap.size, 0, rfl, by simp, fun k hk => ?_⟩⟩, below_alloc w _⟩
  have h : Var (w.alloc (.cells #[.int .u8 0, .int .u8 1] T)) w.heap.size T #[.int .u8 0, .int .u8 1] := Var.new w _ _
  rw [h.cell]
  simp only [be_len] at hk
  match k, hk with
  | 0, _ => rfl
  | 1, _ => rfl
theorem power_lit (x : Value) (z : Int) (m : Nat) (n zr er : Int) (w : World) (hx : IntIs w w.heap.size x z) (hz : blen z.natAbs ≤ 64) (hm : (m : Int) = n) (h1 : m ≤ 9223372036854775807) (e1 : powZ z m = zr) (e2 : powE z m = er) :
    Calls Tryd.prog 37 #[x, .int .i64 n] w (RetIntE w zr er) := by
  have := power_int x z m w hx hz h1
  rwa [hm, e1, e2] at this
theorem conv258 {w X : World} {b : Nat} {f : Bool} {A : Option Addr} {n c : Nat} (h : IntVar w b f A n c (-258)) (hb : Below w.heap.size w X) : (convert 22 9 (.slice A n c)).run Tryd.prog X = .ok (.string ⟨#[1, 2]⟩) X := by
  obtain ⟨-, e, -, -, hb⟩ := (h.step hb).2.open_
  have := conv_bys (c := c) (n := n) 22 Tryd.underlying22 hb (be_bytes _ _) (by simpa using e)
  rw [this]
  rfl
theorem parse_lit (l : List UInt8) (zr er : Int) (w : World) (hl : l.length ≤ 1000000000000) (e1 : parZ l = zr) (e2 : parE l = er) : Calls Tryd.prog 39 #[.string ⟨l.toArray⟩] w (RetIntE w zr er) := by
  have := parse_any l w hl
  rwa [e1, e2] at this
theorem digits10_lit (x : Value) (z k : Int) (w : World) (hx : IntIs w w.heap.size x z) (hz : blen z.natAbs ≤ 64) (ht : Tens w) (e : (Lib.nDigits z.natAbs : Int) = k) :
    Calls Tryd.prog 19 #[x] w fun e w' => e = .returned (.int .i64 k) ∧ Below w.heap.size w w' := e ▸ digits10_int x z w hx hz ht
theorem text_lit (x : Value) (z : Int) (l : List UInt8) (w : World) (hx : IntIs w w.heap.size x z) (hz : blen z.natAbs ≤ 64) (ht : Tens w) (e : Lib.itoa z = l) :
    Calls Tryd.prog 20 #[x] w fun e w' => e = .returned (.string ⟨l.toArray⟩) ∧ Below w.heap.size w w' := e ▸ text_int x z w hx hz ht
theorem nd100 : (Lib.nDigits ((-100 : Int).natAbs) : Int) = 3 := by
  show ((Lib.nDigits 100 : Nat) : Int) = 3
  rw [Lib.nDigits, dif_neg (by omega), Lib.nDigits, dif_neg (by omega), Lib.nDigits_small (by omega)]; rfl
theorem nd0 : (Lib.nDigits ((0 : Int).natAbs) : Int) = 1 := by
  show ((Lib.nDigits 0 : Nat) : Int) = 1
  rw [Lib.nDigits_small (by omega)]; rfl
theorem it100 : Lib.itoa (-100) = [45, 49, 48, 48] := by
  unfold Lib.itoa
  rw [if_pos (by decide)]
  show 45 :: Lib.decDigits 100 = _
  rw [Lib.decDigits, dif_neg (by omega), Lib.decDigits, dif_neg (by omega), Lib.decDigits, dif_pos (by omega)]; rfl

theorem pp1 : parZ [45, 48] = 0 ∧ parE [45, 48] = 6 := by decide +kernel
theorem pp2 : parZ [48, 48, 55] = 0 ∧ parE [48, 48, 55] = 6 := by decide +kernel
theorem pp3 : parZ [49, 50] = 12 ∧ parE [49, 50] = 0 := by decide +kernel

set_option maxRecDepth 100000 in
set_option maxHeartbeats 16000000 in
theorem known_any (w : World) (ht : Tens w) :
    Calls Tryd.prog 12 #[] w fun e w' => e = .returned (.bool true) ∧ Below w.heap.size w w' := by
  have HT := Lib.hid ht
  have B := Lib.hid (Below.refl w.heap.size w)
  clear ht
  go_enter Tryd.func12, Tryd.ntmps12
  go_wp2_with (fail)
  refine (of_lit (-7) w (by decide)).mono ?_
  rintro e w11 ⟨⟨x1, rfl, i1⟩, q1⟩
  go_wp2_with (fail)
  refine (of_lit (2) w11 (by decide)).mono ?_
  rintro e w12 ⟨⟨x2, rfl, i2⟩, q2⟩
  have i12 := Lib.hid (i1.step q2)
  have i2 := Lib.hid i2
  have q12 := bstep q1 q2
  clear q1 q2 i1
  go_wp2_with (fail)
  refine (divMod_lit x1 x2 (-7) (2) (-4) (1) w12 i12.out i2.out (blen_small (by decide)) (blen_small (by decide)) (by decide) (by decide) (by decide) (by decide)).mono ?_
  rintro e w13 ⟨⟨x, y, rfl, j1, j2⟩, q3⟩
  obtain ⟨f1, A1, n1, c1, rfl, j1, -, -⟩ := j1.look
  obtain ⟨g1, D1, m1, d1, rfl, j2, -, -⟩ := j2.look
  obtain ⟨V1, V2, q4⟩ := IntVar.two j1 j2
  have qa := bstep (bstep q12 q3) q4
  have B := Lib.hid (bstep B.out qa)
  have V1a := Lib.hid V1
  have V1b := Lib.hid V2
  clear V1 V2 q12 q3 q4 qa j1 j2 i12 i2
  go_wp2_with (fail)
  generalize ((w13.alloc (.cells #[.bool f1, .slice A1 n1 c1] 24)).alloc (.cells #[.bool g1, .slice D1 m1 d1] 24)) = W1 at *
  generalize w13.heap.size = p1 at *
  go_wp2_with (fail)
  refine (of_lit (7) W1 (by decide)).mono ?_
  rintro e w21 ⟨⟨x1, rfl, i1⟩, q1⟩
  go_wp2_with (fail)
  refine (of_lit (-2) w21 (by decide)).mono ?_
  rintro e w22 ⟨⟨x2, rfl, i2⟩, q2⟩
  have i12 := Lib.hid (i1.step q2)
  have i2 := Lib.hid i2
  have q12 := bstep q1 q2
  clear q1 q2 i1
  go_wp2_with (fail)
  refine (divMod_lit x1 x2 (7) (-2) (-4) (-1) w22 i12.out i2.out (blen_small (by decide)) (blen_small (by decide)) (by decide) (by decide) (by decide) (by decide)).mono ?_
  rintro e w23 ⟨⟨x, y, rfl, j1, j2⟩, q3⟩
  obtain ⟨f2, A2, n2, c2, rfl, j1, -, -⟩ := j1.look
  obtain ⟨g2, D2, m2, d2, rfl, j2, -, -⟩ := j2.look
  obtain ⟨V1, V2, q4⟩ := IntVar.two j1 j2
  have qa := bstep (bstep q12 q3) q4
  have B := Lib.hid (bstep B.out qa)
  have V1a := Lib.hid (V1a.out.step qa)
  have V1b := Lib.hid (V1b.out.step qa)
  have V2a := Lib.hid V1
  have V2b := Lib.hid V2
  clear V1 V2 q12 q3 q4 qa j1 j2 i12 i2
  go_wp2_with (fail)
  generalize ((w23.alloc (.cells #[.bool f2, .slice A2 n2 c2] 24)).alloc (.cells #[.bool g2, .slice D2 m2 d2] 24)) = W2 at *
  generalize w23.heap.size = p2 at *
  go_wp2_with (fail)
  refine (of_lit (1) W2 (by decide)).mono ?_
  rintro e w31 ⟨⟨x1, rfl, i1⟩, q1⟩
  go_wp2_with (fail)
  refine (of_lit (0) w31 (by decide)).mono ?_
  rintro e w32 ⟨⟨x2, rfl, i2⟩, q2⟩
  have i12 := Lib.hid (i1.step q2)
  have i2 := Lib.hid i2
  have q12 := bstep q1 q2
  clear q1 q2 i1
  go_wp2_with (fail)
  refine (divMod_zero x1 x2 (1) w32 i12.out i2.out (blen_small (by decide))).mono ?_
  rintro e w33 ⟨⟨x, y, rfl, j1, j2⟩, q3⟩
  obtain ⟨f3, A3, n3, c3, rfl, j1, -, -⟩ := j1.look
  obtain ⟨g3, D3, m3, d3, rfl, j2, -, -⟩ := j2.look
  obtain ⟨V1, V2, q4⟩ := IntVar.two j1 j2
  have qa := bstep (bstep q12 q3) q4
  have B := Lib.hid (bstep B.out qa)
  have V1a := Lib.hid (V1a.out.step qa)
  have V1b := Lib.hid (V1b.out.step qa)
  have V2a := Lib.hid (V2a.out.step qa)
  have V2b := Lib.hid (V2b.out.step qa)
  have V3a := Lib.hid V1
  have V3b := Lib.hid V2
  clear V1 V2 q12 q3 q4 qa j1 j2 i12 i2
  go_wp2_with (fail)
  generalize ((w33.alloc (.cells #[.bool f3, .slice A3 n3 c3] 24)).alloc (.cells #[.bool g3, .slice D3 m3 d3] 24)) = W3 at *
  generalize w33.heap.size = p3 at *
  go_wp2_with (fail)
  go_cut [77] (fun s wx => s = .bool false ∧ Below W3.heap.size W3 wx)
  case first =>
    go_region_held3 (fun w' => w'.cell? ⟨p1, 0, none⟩ = some (.bool f1) ∧ w'.cell? ⟨p1, 1, none⟩ = some (.slice A1 n1 c1) ∧ w'.cell? ⟨p1 + 1, 0, none⟩ = some (.bool g1) ∧ w'.cell? ⟨p1 + 1, 1, none⟩ = some (.slice D1 m1 d1) ∧ w'.cell? ⟨p2, 0, none⟩ = some (.bool f2) ∧ w'.cell? ⟨p2, 1, none⟩ = some (.slice A2 n2 c2) ∧ w'.cell? ⟨p2 + 1, 0, none⟩ = some (.bool g2) ∧ w'.cell? ⟨p2 + 1, 1, none⟩ = some (.slice D2 m2 d2))
      ((first | exact ⟨(V1a.out.cells' (below_drew0 W3)).1, (V1a.out.cells' (below_drew0 W3)).2, (V1b.out.cells' (below_drew0 W3)).1, (V1b.out.cells' (below_drew0 W3)).2, (V2a.out.cells' (below_drew0 W3)).1, (V2a.out.cells' (below_drew0 W3)).2, (V2b.out.cells' (below_drew0 W3)).1, (V2b.out.cells' (below_drew0 W3)).2⟩ | exact ⟨(V1a.out.cells' hb).1, (V1a.out.cells' hb).2, (V1b.out.cells' hb).1, (V1b.out.cells' hb).2, (V2a.out.cells' hb).1, (V2a.out.cells' hb).2, (V2b.out.cells' hb).1, (V2b.out.cells' hb).2⟩ | exact ⟨(V1a.out.cells' (below_drew0 _)).1, (V1a.out.cells' (below_drew0 _)).2, (V1b.out.cells' (below_drew0 _)).1, (V1b.out.cells' (below_drew0 _)).2, (V2a.out.cells' (below_drew0 _)).1, (V2a.out.cells' (below_drew0 _)).2, (V2b.out.cells' (below_drew0 _)).1, (V2b.out.cells' (below_drew0 _)).2⟩))
      (first
        | (go_at_call 23; refine (of_lit _ _ (by decide)).mono ?_; rintro e wz ⟨⟨z, rfl, iz⟩, qz⟩; (first | have hb := bstep (below_drew0 W3) qz | have hb := bstep hb qz); clear qz)
        | (go_at_call_of 22 (Value.agg #[Value.bool f1, Value.slice A1 n1 c1]); refine (same_int _ _ _ _ _ (V1a.out.2.step hb) iz).mono ?_; rintro e wy ⟨rfl, qy⟩; have hb := bstep hb qy; clear qy)
        | (go_at_call_of 22 (Value.agg #[Value.bool g1, Value.slice D1 m1 d1]); refine (same_int _ _ _ _ _ (V1b.out.2.step hb) iz).mono ?_; rintro e wy ⟨rfl, qy⟩; have hb := bstep hb qy; clear qy)
        | (go_at_call_of 22 (Value.agg #[Value.bool f2, Value.slice A2 n2 c2]); refine (same_int _ _ _ _ _ (V2a.out.2.step hb) iz).mono ?_; rintro e wy ⟨rfl, qy⟩; have hb := bstep hb qy; clear qy)
        | (go_at_call_of 22 (Value.agg #[Value.bool g2, Value.slice D2 m2 d2]); refine (same_int _ _ _ _ _ (V2b.out.2.step hb) iz).mono ?_; rintro e wy ⟨rfl, qy⟩; have hb := bstep hb qy; clear qy))
    all_goals
      go_wp2_with (fail)
      go_meet
      exact ⟨rfl, hb⟩
  case rest =>
  obtain ⟨rfl, qc⟩ := hcut
  have B := Lib.hid (bstep B.out qc)
  have V1a := Lib.hid (V1a.out.step qc)
  have V1b := Lib.hid (V1b.out.step qc)
  have V2a := Lib.hid (V2a.out.step qc)
  have V2b := Lib.hid (V2b.out.step qc)
  have V3a := Lib.hid (V3a.out.step qc)
  have V3b := Lib.hid (V3b.out.step qc)
  clear qc
  generalize wc = W4 at *
  go_wp2_with (fail)
  refine (of_num (-258) W4 (by decide) (by decide)).mono ?_
  rintro e w51 ⟨⟨x, rfl, j1⟩, q3⟩
  obtain ⟨f3, A3, n3, c3, rfl, j1, hf3, -⟩ := j1.look
  obtain rfl : f3 = true := by rw [hf3]; decide
  have V3 := Lib.hid (IntVar.new j1)
  have qa := bstep q3 (below_alloc w51 (.cells #[.bool true, .slice A3 n3 c3] 24))
  have B := Lib.hid (bstep B.out qa)
  have V1a := Lib.hid (V1a.out.step qa)
  have V1b := Lib.hid (V1b.out.step qa)
  have V2a := Lib.hid (V2a.out.step qa)
  have V2b := Lib.hid (V2b.out.step qa)
  have V3a := Lib.hid (V3a.out.step qa)
  have V3b := Lib.hid (V3b.out.step qa)
  clear q3 qa j1 hf3
  go_wp2_with (fail)
  have hsz : (w51.alloc (.cells #[.bool true, .slice A3 n3 c3] 24)).heap.size = w51.heap.size + 1 := by simp
  generalize hW5 : (w51.alloc (.cells #[.bool true, .slice A3 n3 c3] 24)) = W5 at *
  clear hW5
  generalize w51.heap.size = p3 at *
  have hr := (raw01 W5 5).1
  rw [hsz] at hr
  refine (value_bad _ _ hr (by decide)).mono ?_
  rintro e w61 ⟨rfl, q3⟩
  have qa := bstep (below_alloc W5 _) q3
  have B := Lib.hid (bstep B.out qa)
  have V1a := Lib.hid (V1a.out.step qa)
  have V1b := Lib.hid (V1b.out.step qa)
  have V2a := Lib.hid (V2a.out.step qa)
  have V2b := Lib.hid (V2b.out.step qa)
  have V3a := Lib.hid (V3a.out.step qa)
  have V3b := Lib.hid (V3b.out.step qa)
  have V3 := Lib.hid (V3.out.step qa)
  clear q3 qa hr hsz
  go_wp2_with (fail)
  refine (of_lit (-2) w61 (by decide)).mono ?_
  rintro e r1 ⟨⟨x1, rfl, i1⟩, q1⟩
  have i1 := Lib.hid i1
  go_wp2_with (fail)
  refine (power_lit x1 (-2) 3 (3) (-8) 0 r1 i1.out (blen_small (by decide)) rfl (by decide) (by decide +kernel) (by decide +kernel)).mono ?_
  rintro e r2 ⟨⟨x, rfl, j1⟩, q3⟩
  obtain ⟨fr, Ar, nr, cr, rfl, j1, -, -⟩ := j1.look
  have Vr := Lib.hid (IntVar.new j1)
  have qa := bstep (bstep q1 q3) (below_alloc r2 (.cells #[.bool fr, .slice Ar nr cr] 24))
  have B := Lib.hid (bstep B.out qa)
  have V1a := Lib.hid (V1a.out.step qa)
  have V1b := Lib.hid (V1b.out.step qa)
  have V2a := Lib.hid (V2a.out.step qa)
  have V2b := Lib.hid (V2b.out.step qa)
  have V3a := Lib.hid (V3a.out.step qa)
  have V3b := Lib.hid (V3b.out.step qa)
  have V3 := Lib.hid (V3.out.step qa)
  clear q1 q3 qa j1 i1
  go_wp2_with (fail)
  generalize hW : (r2.alloc (.cells #[.bool fr, .slice Ar nr cr] 24)) = W7 at *
  clear hW
  generalize r2.heap.size = p4 at *
  go_wp2_with (fail)
  refine (of_lit (2) W7 (by decide)).mono ?_
  rintro e s1 ⟨⟨x1, rfl, i1⟩, q1⟩
  have i1 := Lib.hid i1
  go_wp2_with (fail)
  refine (power_lit x1 (2) 512 (512) (0) 7 s1 i1.out (blen_small (by decide)) rfl (by decide) (by decide +kernel) (by decide +kernel)).mono ?_
  rintro e s2 ⟨⟨x, rfl, j1⟩, q3⟩
  obtain ⟨fs, As, ns, cs, rfl, j1, -, -⟩ := j1.look
  have Vs := Lib.hid (IntVar.new j1)
  have qa := bstep (bstep q1 q3) (below_alloc s2 (.cells #[.bool fs, .slice As ns cs] 24))
  have B := Lib.hid (bstep B.out qa)
  have V1a := Lib.hid (V1a.out.step qa)
  have V1b := Lib.hid (V1b.out.step qa)
  have V2a := Lib.hid (V2a.out.step qa)
  have V2b := Lib.hid (V2b.out.step qa)
  have V3a := Lib.hid (V3a.out.step qa)
  have V3b := Lib.hid (V3b.out.step qa)
  have V3 := Lib.hid (V3.out.step qa)
  have Vr := Lib.hid (Vr.out.step qa)
  clear q1 q3 qa j1 i1
  go_wp2_with (fail)
  generalize hW : (s2.alloc (.cells #[.bool fs, .slice As ns cs] 24)) = W8 at *
  clear hW
  generalize s2.heap.size = p5 at *
  go_wp2_with (fail)
  go_cut [121] (fun s wx => s = .bool false ∧ Below W8.heap.size W8 wx)
  case first =>
    go_region_held3 (fun w' => w'.cell? ⟨p3, 0, none⟩ = some (.bool true) ∧ w'.cell? ⟨p3, 1, none⟩ = some (.slice A3 n3 c3) ∧ w'.cell? ⟨p4, 0, none⟩ = some (.bool fr) ∧ w'.cell? ⟨p4, 1, none⟩ = some (.slice Ar nr cr) ∧ (convert 22 9 (.slice A3 n3 c3)).run Tryd.prog w' = .ok (.string ⟨#[1, 2]⟩) w')
      ((first | exact ⟨(V3.out.cells' (below_drew0 W8)).1, (V3.out.cells' (below_drew0 W8)).2, (Vr.out.cells' (below_drew0 W8)).1, (Vr.out.cells' (below_drew0 W8)).2, conv258 V3.out (below_drew0 W8)⟩ | exact ⟨(V3.out.cells' hb).1, (V3.out.cells' hb).2, (Vr.out.cells' hb).1, (Vr.out.cells' hb).2, conv258 V3.out hb⟩ | exact ⟨(V3.out.cells' (below_drew0 _)).1, (V3.out.cells' (below_drew0 _)).2, (Vr.out.cells' (below_drew0 _)).1, (Vr.out.cells' (below_drew0 _)).2, conv258 V3.out (below_drew0 _)⟩))
      (first
        | (go_at_call 23; refine (of_lit _ _ (by decide)).mono ?_; rintro e wz ⟨⟨z, rfl, iz⟩, qz⟩; (first | have hb := bstep (below_drew0 W8) qz | have hb := bstep hb qz); clear qz)
        | (go_at_call_of 22 (Value.agg #[Value.bool fr, Value.slice Ar nr cr]); refine (same_int _ _ _ _ _ (Vr.out.2.step hb) iz).mono ?_; rintro e wy ⟨rfl, qy⟩; have hb := bstep hb qy; clear qy))
    all_goals
      go_wp2_with (fail)
      go_meet
      exact ⟨rfl, hb⟩
  case rest =>
  obtain ⟨rfl, qc⟩ := hcut
  have B := Lib.hid (bstep B.out qc)
  have V1a := Lib.hid (V1a.out.step qc)
  have V1b := Lib.hid (V1b.out.step qc)
  have V2a := Lib.hid (V2a.out.step qc)
  have V2b := Lib.hid (V2b.out.step qc)
  have V3a := Lib.hid (V3a.out.step qc)
  have V3b := Lib.hid (V3b.out.step qc)
  have V3 := Lib.hid (V3.out.step qc)
  have Vr := Lib.hid (Vr.out.step qc)
  have Vs := Lib.hid (Vs.out.step qc)
  clear qc
  generalize wc = W9 at *
  clear V1a V1b V2a V2b V3a V3b V3 Vr Vs
  go_wp2_with (fail)
  refine (parse_lit [45, 48] (0) 6 W9 (by decide) pp1.1 pp1.2).mono ?_
  rintro e t2 ⟨⟨x, rfl, j1⟩, q3⟩
  obtain ⟨ft, At, nt, ct, rfl, j1, -, -⟩ := j1.look
  have Vt := Lib.hid (IntVar.new j1)
  have qa := bstep q3 (below_alloc t2 (.cells #[.bool ft, .slice At nt ct] 24))
  have B := Lib.hid (bstep B.out qa)
  clear q3 qa j1
  go_wp2_with (fail)
  generalize hW : (t2.alloc (.cells #[.bool ft, .slice At nt ct] 24)) = W10 at *
  clear hW
  generalize t2.heap.size = p6 at *
  go_wp2_with (fail)
  refine (parse_lit [48, 48, 55] (0) 6 W10 (by decide) pp2.1 pp2.2).mono ?_
  rintro e u2 ⟨⟨x, rfl, j1⟩, q3⟩
  obtain ⟨fu, Au, nu, cu, rfl, j1, -, -⟩ := j1.look
  have Vu := Lib.hid (IntVar.new j1)
  have qa := bstep q3 (below_alloc u2 (.cells #[.bool fu, .slice Au nu cu] 24))
  have B := Lib.hid (bstep B.out qa)
  have Vt := Lib.hid (Vt.out.step qa)
  clear q3 qa j1
  go_wp2_with (fail)
  generalize hW : (u2.alloc (.cells #[.bool fu, .slice Au nu cu] 24)) = W11 at *
  clear hW
  generalize u2.heap.size = p7 at *
  go_wp2_with (fail)
  refine (parse_lit [49, 50] (12) 0 W11 (by decide) pp3.1 pp3.2).mono ?_
  rintro e v2 ⟨⟨x, rfl, j1⟩, q3⟩
  obtain ⟨fv, Av, nv, cv, rfl, j1, -, -⟩ := j1.look
  have Vv := Lib.hid (IntVar.new j1)
  have qa := bstep q3 (below_alloc v2 (.cells #[.bool fv, .slice Av nv cv] 24))
  have B := Lib.hid (bstep B.out qa)
  have Vt := Lib.hid (Vt.out.step qa)
  have Vu := Lib.hid (Vu.out.step qa)
  clear q3 qa j1
  go_wp2_with (fail)
  generalize hW : (v2.alloc (.cells #[.bool fv, .slice Av nv cv] 24)) = W12 at *
  clear hW
  generalize v2.heap.size = p8 at *
  have tok := True.intro
  go_wp2_with (fail)
  go_cut [0] (fun s wx => s = .bool true ∧ Below W12.heap.size W12 wx)
  case first =>
    go_region_held3 (fun w' => w'.cell? ⟨p8, 0, none⟩ = some (.bool fv) ∧ w'.cell? ⟨p8, 1, none⟩ = some (.slice Av nv cv))
      ((first | exact ⟨(Vv.out.cells' (below_drew0 W12)).1, (Vv.out.cells' (below_drew0 W12)).2⟩ | exact ⟨(Vv.out.cells' hb).1, (Vv.out.cells' hb).2⟩ | exact ⟨(Vv.out.cells' (below_drew0 _)).1, (Vv.out.cells' (below_drew0 _)).2⟩))
      (first
        | (go_at_call 23; refine (of_lit _ _ (by decide)).mono ?_; rintro e wz ⟨⟨z, rfl, iz⟩, qz⟩; (first | have hb := bstep (below_drew0 W12) qz | have hb := bstep hb qz); clear qz)
        | (go_at_call_of 22 (Value.agg #[Value.bool fv, Value.slice Av nv cv]); refine (same_int _ _ _ _ _ (Vv.out.2.step hb) iz).mono ?_; rintro e wy ⟨rfl, qy⟩; have hb := bstep hb qy; clear qy)
        | (go_at_call 19; have _t := tok; refine (digits10_lit _ (-100) 3 _ iz (blen_small (by decide)) (HT.out.below (bstep B.out hb)) nd100).mono ?_; rintro e wy ⟨rfl, qy⟩; have hb := bstep hb qy; clear qy _t tok)
        | (go_at_call 19; refine (digits10_lit _ 0 1 _ (intIs_zero _ _) (blen_small (by decide)) (HT.out.below (bstep B.out hb)) nd0).mono ?_; rintro e wy ⟨rfl, qy⟩; have hb := bstep hb qy; clear qy)
        | (go_at_call 20; refine (text_lit _ (-100) _ _ iz (blen_small (by decide)) (HT.out.below (bstep B.out hb)) it100).mono ?_; rintro e wy ⟨rfl, qy⟩; have hb := bstep hb qy; clear qy))
    all_goals
      go_wp2_with (fail)
      go_meet
      exact ⟨rfl, hb⟩
  case rest =>
  obtain ⟨rfl, qc⟩ := hcut
  have B := Lib.hid (bstep B.out qc)
  have Vt := Lib.hid (Vt.out.step qc)
  have Vu := Lib.hid (Vu.out.step qc)
  have Vv := Lib.hid (Vv.out.step qc)
  clear qc
  generalize wc = W13 at *
  go_wp2_with (fail)
  go_ret
  exact ⟨rfl, B.out⟩
end Go.Proofs.YtnkklmbmodkogaaDoor
