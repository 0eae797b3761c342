/- number.sum: two integers given as signs and absolute values. number.Add, number.Sub. number.Compare, number.Sign. number.Compare, number.Sign, over Ints' values. law01's same and big. -/
import Derived.Test.YtnkklmbmodkogaaDoorG8
import Derived.Deep.RegionHeld3
import Derived.Test.YtnkklmbmodkogaaDoorG9
import Derived.Lib.Bytealg
import Derived.Lib.BytesEntry
/-! Su1 -/
namespace Go.Proofs.YtnkklmbmodkogaaDoor
open Go.RowKit

/-- An integer, if it has room; else 0 and ErrFull. -/
def fitZ (z : Int) : Int := if fits z.natAbs then z else 0
def fitE (z : Int) : Int := if fits z.natAbs then 0 else 7
theorem fit_yes {z : Int} (h : z.natAbs < 18446744073709551616 ^ 8) : fitZ z = z ∧ fitE z = 0 := by
  have := (fits_iff _).2 h
  unfold fitZ fitE; rw [if_pos this, if_pos this]; exact ⟨rfl, rfl⟩
theorem sgn_sum_same (f : Bool) (u v : Nat) : sgn f u + sgn f v = sgn f (u + v) := by cases f <;> simp [sgn] <;> omega
theorem sgn_sum_lt (f : Bool) {u v : Nat} (h : u ≤ v) : sgn (!f) u + sgn f v = sgn f (v - u) := by cases f <;> simp [sgn] <;> omega
theorem sgn_sum_ge (f : Bool) {u v : Nat} (h : v ≤ u) : sgn f u + sgn (!f) v = sgn f (u - v) := by cases f <;> simp [sgn] <;> omega
theorem fit_sgn {f : Bool} {n : Nat} : fitZ (sgn f n) = (if fits n then sgn f n else 0) ∧ fitE (sgn f n) = if fits n then 0 else 7 := by unfold fitZ fitE; rw [sgn_abs]; exact ⟨rfl, rfl⟩
theorem checked_fit (neg : Bool) (n : Nat) (w : World) : Calls Tryd.prog 51 #[.bool neg, .agg (mag (lm n)), .bool (fits n)] w (RetIntE w (fitZ (sgn neg n)) (fitE (sgn neg n))) := by
  rw [fit_sgn.1, fit_sgn.2]
  cases h : fits n
  · exact checked_full neg n w
  · exact checked_ok neg n w ((fits_iff n).1 h)

set_option maxRecDepth 100000 in
set_option maxHeartbeats 2000000 in
theorem sum_same (f : Bool) (u v : Nat) (w : World) (hu : u < 18446744073709551616 ^ 8) (hv : v < 18446744073709551616 ^ 8) :
    Calls Tryd.prog 49 #[.bool f, .agg (mag (lm u)), .bool f, .agg (mag (lm v))] w (RetIntE w (fitZ (sgn f u + sgn f v)) (fitE (sgn f u + sgn f v))) := by
  rw [sgn_sum_same]
  obtain ⟨v0, v1, v2, hbW, hsz⟩ := boxes3 w 56 56 24 (mag (lm u)) (mag (lm v)) #[.bool false, .slice none 0 0]
  have HA := Lib.hid (fun w => add_mag u v w hu hv)
  have HC := Lib.hid (fun w => checked_fit f (u + v) w)
  have hx0 : Box _ _ _ (lm u) := v0
  have hx1 : Box _ _ _ (lm v) := v1
  clear hu hv v0 v1
  generalize fitZ (sgn f (u + v)) = zz at *
  generalize fitE (sgn f (u + v)) = er at *
  generalize u + v = s at *
  cases f
  all_goals
    go_enter Tryd.func49, Tryd.ntmps49
    go_wp2_with (first | (refine ldm rfl _ rfl _ rfl _ hx0 (lm_len _) ?_) | (refine ldm rfl _ rfl _ rfl _ hx1 (lm_len _) ?_))
    refine (HA.out _).mono ?_
    rintro e w1 ⟨rfl, q1⟩
    obtain ⟨z3, b3, l3⟩ := fill_new w1 (lm s)
    have q13 := bstep (bstep hbW q1) l3
    have v2' := v2.below (bstep q1 l3) v2.lt
    have hl := v2'.lt
    have Z3 := Lib.hid z3
    have B3 := Lib.hid b3
    have Q := Lib.hid q13
    have V2 := Lib.hid v2'
    clear z3 b3 l3 q13 v2' q1
    go_wp2_with (first | (refine stm rfl _ _ rfl _ rfl _ _ rfl Z3.out (lm_len _) rfl ?_) | (refine ldm rfl _ rfl _ rfl _ B3.out (lm_len _) ?_))
    refine (HC.out _).mono ?_
    rintro e w5 ⟨⟨x1, rfl, hi⟩, hq⟩
    obtain ⟨f2, A2, n2, c2, rfl, hi3, hf2, hn2⟩ := hi.look
    clear hf2 hn2 hi
    have hvr := V2.out.below hq hl
    have s0 := hvr.cell 0; have s1 := hvr.cell 1; have t0 := hvr.free 0; have t1 := hvr.free 1
    simp only [List.getElem?_toArray, List.getElem?_cons_succ, List.getElem?_cons_zero] at s0 s1
    have HXX := Lib.hid (retIntE_store (er := er) hi3 hvr (bstep Q.out hq) (by omega))
    clear hvr hq hi3
    go_wp2_with (fail)
    exact bodyPost_ret (v := .tuple #[.agg #[.bool f2, .slice A2 n2 c2], .int .i64 er]) (by simp [results, Tryd.results49, go_sem, s0, s1]) rfl HXX.out

set_option maxRecDepth 100000 in
set_option maxHeartbeats 2000000 in
theorem sum_lt (f : Bool) (u v : Nat) (w : World) (hu : u < 18446744073709551616 ^ 8) (hv : v < 18446744073709551616 ^ 8) (huv : u < v) :
    Calls Tryd.prog 49 #[.bool (!f), .agg (mag (lm u)), .bool f, .agg (mag (lm v))] w (RetIntE w (fitZ (sgn (!f) u + sgn f v)) (fitE (sgn (!f) u + sgn f v))) := by
  rw [sgn_sum_lt f (Nat.le_of_lt huv), fit_sgn.1, fit_sgn.2, if_pos ((fits_iff _).2 (by omega)), if_pos ((fits_iff _).2 (by omega))]
  obtain ⟨v0, v1, v2, hbW, hsz⟩ := boxes3 w 56 56 24 (mag (lm u)) (mag (lm v)) #[.bool false, .slice none 0 0]
  have HC := Lib.hid (fun w => compare_mag u v w hu hv)
  have HS := Lib.hid (fun w => sub_mag v u w (Nat.le_of_lt huv))
  have HG := Lib.hid (fun w => signed_any f (v - u) w (Nat.lt_of_le_of_lt (Nat.sub_le _ _) hv))
  have hx0 : Box _ _ _ (lm u) := v0
  have hx1 : Box _ _ _ (lm v) := v1
  have hc := cmpN_lt huv
  clear hu hv v0 v1 huv
  generalize sgn f (v - u) = zz at *
  generalize v - u = s at *
  cases f
  all_goals
    go_enter Tryd.func49, Tryd.ntmps49
    go_wp2_with (first | (refine ldm rfl _ rfl _ rfl _ hx0 (lm_len _) ?_) | (refine ldm rfl _ rfl _ rfl _ hx1 (lm_len _) ?_))
    refine (HC.out _).mono ?_
    rw [hc]
    rintro e w1 ⟨rfl, q1⟩
    have y0 := hx0.below q1 hx0.lt
    have y1 := hx1.below q1 hx1.lt
    have v2' := v2.below q1 v2.lt
    have Q := Lib.hid (bstep hbW q1)
    clear q1
    go_wp2_with (first | (refine ldm rfl _ rfl _ rfl _ y0 (lm_len _) ?_) | (refine ldm rfl _ rfl _ rfl _ y1 (lm_len _) ?_))
    refine (HS.out _).mono ?_
    rintro e w2 ⟨rfl, q2⟩
    have v2'' := v2'.below q2 v2'.lt
    have hl := v2''.lt
    have Q := Lib.hid (bstep Q.out q2)
    clear q2 y0 y1
    go_wp2_with (fail)
    refine (HG.out _).mono ?_
    rintro e w5 ⟨⟨x1, rfl, hi⟩, hq⟩
    obtain ⟨f2, A2, n2, c2, rfl, hi3, hf2, hn2⟩ := hi.look
    clear hf2 hn2 hi
    have hvr := v2''.below hq hl
    have s0 := hvr.cell 0; have s1 := hvr.cell 1; have t0 := hvr.free 0; have t1 := hvr.free 1
    simp only [List.getElem?_toArray, List.getElem?_cons_succ, List.getElem?_cons_zero] at s0 s1
    have HXX := Lib.hid (retIntE_store (er := 0) hi3 hvr (bstep Q.out hq) (by omega))
    clear hvr hq hi3 v2 v2' v2'' hx0 hx1 hbW
    go_wp2_with (fail)
    exact bodyPost_ret (v := .tuple #[.agg #[.bool f2, .slice A2 n2 c2], .int .i64 0]) (by simp [results, Tryd.results49, go_sem, s0, s1]) rfl HXX.out

set_option maxRecDepth 100000 in
set_option maxHeartbeats 2000000 in
theorem sum_ge (f : Bool) (u v : Nat) (w : World) (hu : u < 18446744073709551616 ^ 8) (hv : v < 18446744073709551616 ^ 8) (hvu : v ≤ u) :
    Calls Tryd.prog 49 #[.bool f, .agg (mag (lm u)), .bool (!f), .agg (mag (lm v))] w (RetIntE w (fitZ (sgn f u + sgn (!f) v)) (fitE (sgn f u + sgn (!f) v))) := by
  rw [sgn_sum_ge f hvu, fit_sgn.1, fit_sgn.2, if_pos ((fits_iff _).2 (by omega)), if_pos ((fits_iff _).2 (by omega))]
  obtain ⟨v0, v1, v2, hbW, hsz⟩ := boxes3 w 56 56 24 (mag (lm u)) (mag (lm v)) #[.bool false, .slice none 0 0]
  have HC := Lib.hid (fun w => compare_mag u v w hu hv)
  have HS := Lib.hid (fun w => sub_mag u v w hvu)
  have HG := Lib.hid (fun w => signed_any f (u - v) w (Nat.lt_of_le_of_lt (Nat.sub_le _ _) hu))
  have hx0 : Box _ _ _ (lm u) := v0
  have hx1 : Box _ _ _ (lm v) := v1
  have hc0 : 0 ≤ cmpN u v := cmpN_nonneg hvu
  have hcd : decide (cmpN u v < 0) = false := by simp; omega
  clear hu hv v0 v1 hvu
  generalize cmpN u v = cc at *
  generalize sgn f (u - v) = zz at *
  generalize u - v = s at *
  cases f
  all_goals
    go_enter Tryd.func49, Tryd.ntmps49
    go_wp2_with (first | (refine ldm rfl _ rfl _ rfl _ hx0 (lm_len _) ?_) | (refine ldm rfl _ rfl _ rfl _ hx1 (lm_len _) ?_))
    refine (HC.out _).mono ?_
    rintro e w1 ⟨rfl, q1⟩
    have y0 := hx0.below q1 hx0.lt
    have y1 := hx1.below q1 hx1.lt
    have v2' := v2.below q1 v2.lt
    have Q := Lib.hid (bstep hbW q1)
    clear q1
    go_wp2_with (first | (refine ldm rfl _ rfl _ rfl _ y0 (lm_len _) ?_) | (refine ldm rfl _ rfl _ rfl _ y1 (lm_len _) ?_))
    refine (HS.out _).mono ?_
    rintro e w2 ⟨rfl, q2⟩
    have v2'' := v2'.below q2 v2'.lt
    have hl := v2''.lt
    have Q := Lib.hid (bstep Q.out q2)
    clear q2 y0 y1
    go_wp2_with (fail)
    refine (HG.out _).mono ?_
    rintro e w5 ⟨⟨x1, rfl, hi⟩, hq⟩
    obtain ⟨f2, A2, n2, c2, rfl, hi3, hf2, hn2⟩ := hi.look
    clear hf2 hn2 hi
    have hvr := v2''.below hq hl
    have s0 := hvr.cell 0; have s1 := hvr.cell 1; have t0 := hvr.free 0; have t1 := hvr.free 1
    simp only [List.getElem?_toArray, List.getElem?_cons_succ, List.getElem?_cons_zero] at s0 s1
    have HXX := Lib.hid (retIntE_store (er := 0) hi3 hvr (bstep Q.out hq) (by omega))
    clear hvr hq hi3 v2 v2' v2'' hx0 hx1 hbW
    go_wp2_with (fail)
    exact bodyPost_ret (v := .tuple #[.agg #[.bool f2, .slice A2 n2 c2], .int .i64 0]) (by simp [results, Tryd.results49, go_sem, s0, s1]) rfl HXX.out

theorem sum_any (f f' : Bool) (u v : Nat) (w : World) (hu : u < 18446744073709551616 ^ 8) (hv : v < 18446744073709551616 ^ 8) :
    Calls Tryd.prog 49 #[.bool f, .agg (mag (lm u)), .bool f', .agg (mag (lm v))] w (RetIntE w (fitZ (sgn f u + sgn f' v)) (fitE (sgn f u + sgn f' v))) := by
  by_cases h : f = f'
  · subst h; exact sum_same f u v w hu hv
  · rcases Nat.lt_or_ge u v with hlt | hge
    · obtain rfl : f = !f' := by cases f <;> cases f' <;> simp_all
      exact sum_lt f' u v w hu hv hlt
    · obtain rfl : f' = !f := by cases f <;> cases f' <;> simp_all
      exact sum_ge f u v w hu hv hge
end Go.Proofs.YtnkklmbmodkogaaDoor

/-! As1 -/
namespace Go.Proofs.YtnkklmbmodkogaaDoor
open Go.RowKit

theorem keep4 {W4 X : World} {g0 g1 : Nat} {t0 t1 t2 t3 : Value} (h : Below W4.heap.size W4 X) (c0 : W4.cell? ⟨g0, 0, none⟩ = some t0) (c1 : W4.cell? ⟨g0, 1, none⟩ = some t1) (c2 : W4.cell? ⟨g1, 0, none⟩ = some t2) (c3 : W4.cell? ⟨g1, 1, none⟩ = some t3) (h0 : g0 < W4.heap.size) (h1 : g1 < W4.heap.size) :
    X.cell? ⟨g0, 0, none⟩ = some t0 ∧ X.cell? ⟨g0, 1, none⟩ = some t1 ∧ X.cell? ⟨g1, 0, none⟩ = some t2 ∧ X.cell? ⟨g1, 1, none⟩ = some t3 :=
  ⟨kept_cell h c0 h0, kept_cell h c1 h0, kept_cell h c2 h1, kept_cell h c3 h1⟩
theorem keep4s {X : World} {g0 g1 b o : Nat} {v t0 t1 t2 t3 : Value} (hc : X.cell? ⟨g0, 0, none⟩ = some t0 ∧ X.cell? ⟨g0, 1, none⟩ = some t1 ∧ X.cell? ⟨g1, 0, none⟩ = some t2 ∧ X.cell? ⟨g1, 1, none⟩ = some t3) (h0 : g0 ≠ b) (h1 : g1 ≠ b) :
    (X.setCell ⟨b, o, none⟩ v).cell? ⟨g0, 0, none⟩ = some t0 ∧ (X.setCell ⟨b, o, none⟩ v).cell? ⟨g0, 1, none⟩ = some t1 ∧ (X.setCell ⟨b, o, none⟩ v).cell? ⟨g1, 0, none⟩ = some t2 ∧ (X.setCell ⟨b, o, none⟩ v).cell? ⟨g1, 1, none⟩ = some t3 :=
  ⟨(cell_far h0 v).trans hc.1, (cell_far h0 v).trans hc.2.1, (cell_far h1 v).trans hc.2.2.1, (cell_far h1 v).trans hc.2.2.2⟩
set_option maxRecDepth 100000 in
set_option maxHeartbeats 2000000 in
theorem add_int (x y : Value) (a b : Int) (w : World) (hx : IntIs w w.heap.size x a) (hy : IntIs w w.heap.size y b) (ha : blen a.natAbs ≤ 64) (hb : blen b.natAbs ≤ 64) :
    Calls Tryd.prog 26 #[x, y] w (RetIntE w (fitZ (a + b)) (fitE (a + b))) := by
  obtain ⟨f, A, m, c, rfl, hx, hf, hn⟩ := hx.look
  obtain ⟨f', A', m', c', rfl, hy, hf', hn'⟩ := hy.look
  obtain ⟨v0, v1, v2, hbW, hsz⟩ := boxes3 w 24 24 24 #[.bool f, .slice A m c] #[.bool f', .slice A' m' c'] #[.bool false, .slice none 0 0]
  have HX := Lib.hid (hx.step hbW)
  have HY := Lib.hid (hy.step hbW)
  have HA := Lib.hid ha
  have HB := Lib.hid hb
  have e : sgn f a.natAbs + sgn f' b.natAbs = a + b := by rw [hf, hf', sgn_self, sgn_self]
  have HS := fun w => sum_any f f' a.natAbs b.natAbs w (abs_lt ha) (abs_lt hb)
  rw [e] at HS
  have HS := Lib.hid HS
  generalize fitZ (a + b) = zz at *
  generalize fitE (a + b) = er at *
  clear hx hy ha hb hf hf' hn hn' e
  go_enter Tryd.func26, Tryd.ntmps26
  go_wp2_with (fail)
  generalize ((w.alloc (.cells #[.bool f, .slice A m c] 24)).alloc (.cells #[.bool f', .slice A' m' c'] 24)).alloc (.cells #[.bool false, .slice none 0 0] 24) = W at *
  have hlt : w.heap.size + 2 < W.heap.size := by omega
  refine (valid_int _ a W HX.out HA.out).mono ?_
  rintro e w1 ⟨rfl, q1⟩
  have HX1 := Lib.hid (HX.out.step q1)
  have HY1 := Lib.hid (HY.out.step q1)
  have r0 := (v1.below q1 (by omega)).cell 0
  have r1 := (v1.below q1 (by omega)).cell 1
  simp only [List.getElem?_toArray, List.getElem?_cons_succ, List.getElem?_cons_zero] at r0 r1
  go_wp2_with (fail)
  clear r0 r1
  refine (valid_int _ b w1 HY1.out HB.out).mono ?_
  rintro e w2 ⟨rfl, q2⟩
  have HX2 := Lib.hid (HX1.out.step q2)
  have HY2 := Lib.hid (HY1.out.step q2)
  have q12 := q1.trans (q2.mono q1.size)
  have p0 := v0.below q12 (by omega)
  have p1 := v1.below q12 (by omega)
  have V2 := Lib.hid (v2.below q12 (by omega))
  have s0 := p0.cell 0; have s1 := p0.cell 1; have s2 := p1.cell 0; have s3 := p1.cell 1
  simp only [List.getElem?_toArray, List.getElem?_cons_succ, List.getElem?_cons_zero] at s0 s1 s2 s3
  have hl2 : w.heap.size + 2 < w2.heap.size := Nat.lt_of_lt_of_le hlt q12.size
  have hl20 : w.heap.size < w2.heap.size := by omega
  have hl21 : w.heap.size + 1 < w2.heap.size := by omega
  have HBW := Lib.hid (hbW.trans (q12.mono (by omega)))
  have hn0 : w.heap.size ≠ w.heap.size + 1 + 1 := by omega
  have hn1 : w.heap.size + 1 ≠ w.heap.size + 1 + 1 := by omega
  clear HX1 HY1 HX HY p0 p1 v0 v1 v2 q1 q2 q12 hbW
  go_wp2_with (fail)
  go_region_held3 (fun w' => w'.cell? ⟨w.heap.size, 0, none⟩ = some (.bool f) ∧ w'.cell? ⟨w.heap.size, 1, none⟩ = some (.slice A m c) ∧ w'.cell? ⟨w.heap.size + 1, 0, none⟩ = some (.bool f') ∧ w'.cell? ⟨w.heap.size + 1, 1, none⟩ = some (.slice A' m' c'))
    ((first | exact ⟨s0, s1, s2, s3⟩ | exact keep4 hb s0 s1 s2 s3 hl20 hl21 | exact keep4s (keep4s (keep4 hb s0 s1 s2 s3 hl20 hl21) hn0 hn1) hn0 hn1))
    (first
      | (go_at_call_of 42 (Value.slice A m c); refine (magOf_int (f := f) a _ ?_ HA.out).mono ?_; exact HX2.out; rintro e w3 ⟨rfl, hq⟩; have hb := bstep (below_drew0 w2) hq; clear hq)
      | (go_at_call_of 42 (Value.slice A' m' c'); refine (magOf_int (f := f') b _ ?_ HB.out).mono ?_; exact HY2.out.step hb; rintro e w4 ⟨rfl, hq⟩; have hb := bstep hb hq; clear hq)
      | (go_at_call 49; refine (HS.out _).mono ?_; rintro e w5 ⟨⟨x1, rfl, hi⟩, hq⟩; obtain ⟨f2, A2, n2, c2, rfl, hi3, hf2, hn2⟩ := hi.look; have hb := bstep hb hq; have hvr := V2.out.below hb hl2; have t0 := hvr.cell 0; have t1 := hvr.cell 1; have z0 := hvr.free 0; have z1 := hvr.free 1; simp only [List.getElem?_toArray, List.getElem?_cons_succ, List.getElem?_cons_zero] at t0 t1; have HXX := Lib.hid (retIntE_store (er := er) hi3 hvr (HBW.out.trans (hb.mono (by omega))) (by omega)); clear hf2 hn2 hi hi3 hvr hq))
  go_wp2_with (fail)
  exact bodyPost_ret (v := .tuple #[.agg #[.bool f2, .slice A2 n2 c2], .int .i64 er]) (by simp [results, Tryd.results26, go_sem, t0, t1]) rfl HXX.out
set_option maxRecDepth 100000 in
set_option maxHeartbeats 2000000 in
theorem sub_int (x y : Value) (a b : Int) (w : World) (hx : IntIs w w.heap.size x a) (hy : IntIs w w.heap.size y b) (ha : blen a.natAbs ≤ 64) (hb : blen b.natAbs ≤ 64) :
    Calls Tryd.prog 27 #[x, y] w (RetIntE w (fitZ (a - b)) (fitE (a - b))) := by
  obtain ⟨f, A, m, c, rfl, hx, hf, hn⟩ := hx.look
  obtain ⟨f', A', m', c', rfl, hy, hf', hn'⟩ := hy.look
  obtain ⟨v0, v1, v2, hbW, hsz⟩ := boxes3 w 24 24 24 #[.bool f, .slice A m c] #[.bool f', .slice A' m' c'] #[.bool false, .slice none 0 0]
  have HX := Lib.hid (hx.step hbW)
  have HY := Lib.hid (hy.step hbW)
  have HA := Lib.hid ha
  have HB := Lib.hid hb
  have e : sgn f a.natAbs + sgn (!f') b.natAbs = a - b := by rw [hf, hf', sgn_self, sgn_not]; rfl
  have HS := fun w => sum_any f (!f') a.natAbs b.natAbs w (abs_lt ha) (abs_lt hb)
  rw [e] at HS
  have HS := Lib.hid HS
  generalize fitZ (a - b) = zz at *
  generalize fitE (a - b) = er at *
  clear hx hy ha hb hf hf' hn hn' e
  go_enter Tryd.func27, Tryd.ntmps27
  go_wp2_with (fail)
  generalize ((w.alloc (.cells #[.bool f, .slice A m c] 24)).alloc (.cells #[.bool f', .slice A' m' c'] 24)).alloc (.cells #[.bool false, .slice none 0 0] 24) = W at *
  have hlt : w.heap.size + 2 < W.heap.size := by omega
  refine (valid_int _ a W HX.out HA.out).mono ?_
  rintro e w1 ⟨rfl, q1⟩
  have HX1 := Lib.hid (HX.out.step q1)
  have HY1 := Lib.hid (HY.out.step q1)
  have r0 := (v1.below q1 (by omega)).cell 0
  have r1 := (v1.below q1 (by omega)).cell 1
  simp only [List.getElem?_toArray, List.getElem?_cons_succ, List.getElem?_cons_zero] at r0 r1
  go_wp2_with (fail)
  clear r0 r1
  refine (valid_int _ b w1 HY1.out HB.out).mono ?_
  rintro e w2 ⟨rfl, q2⟩
  have HX2 := Lib.hid (HX1.out.step q2)
  have HY2 := Lib.hid (HY1.out.step q2)
  have q12 := q1.trans (q2.mono q1.size)
  have p0 := v0.below q12 (by omega)
  have p1 := v1.below q12 (by omega)
  have V2 := Lib.hid (v2.below q12 (by omega))
  have s0 := p0.cell 0; have s1 := p0.cell 1; have s2 := p1.cell 0; have s3 := p1.cell 1
  simp only [List.getElem?_toArray, List.getElem?_cons_succ, List.getElem?_cons_zero] at s0 s1 s2 s3
  have hl2 : w.heap.size + 2 < w2.heap.size := Nat.lt_of_lt_of_le hlt q12.size
  have hl20 : w.heap.size < w2.heap.size := by omega
  have hl21 : w.heap.size + 1 < w2.heap.size := by omega
  have HBW := Lib.hid (hbW.trans (q12.mono (by omega)))
  have hn0 : w.heap.size ≠ w.heap.size + 1 + 1 := by omega
  have hn1 : w.heap.size + 1 ≠ w.heap.size + 1 + 1 := by omega
  clear HX1 HY1 HX HY p0 p1 v0 v1 v2 q1 q2 q12 hbW
  go_wp2_with (fail)
  go_region_held3 (fun w' => w'.cell? ⟨w.heap.size, 0, none⟩ = some (.bool f) ∧ w'.cell? ⟨w.heap.size, 1, none⟩ = some (.slice A m c) ∧ w'.cell? ⟨w.heap.size + 1, 0, none⟩ = some (.bool f') ∧ w'.cell? ⟨w.heap.size + 1, 1, none⟩ = some (.slice A' m' c'))
    ((first | exact ⟨s0, s1, s2, s3⟩ | exact keep4 hb s0 s1 s2 s3 hl20 hl21 | exact keep4s (keep4s (keep4 hb s0 s1 s2 s3 hl20 hl21) hn0 hn1) hn0 hn1))
    (first
      | (go_at_call_of 42 (Value.slice A m c); refine (magOf_int (f := f) a _ ?_ HA.out).mono ?_; exact HX2.out; rintro e w3 ⟨rfl, hq⟩; have hb := bstep (below_drew0 w2) hq; clear hq)
      | (go_at_call_of 42 (Value.slice A' m' c'); refine (magOf_int (f := f') b _ ?_ HB.out).mono ?_; exact HY2.out.step hb; rintro e w4 ⟨rfl, hq⟩; have hb := bstep hb hq; clear hq)
      | (go_at_call 49; refine (HS.out _).mono ?_; rintro e w5 ⟨⟨x1, rfl, hi⟩, hq⟩; obtain ⟨f2, A2, n2, c2, rfl, hi3, hf2, hn2⟩ := hi.look; have hb := bstep hb hq; have hvr := V2.out.below hb hl2; have t0 := hvr.cell 0; have t1 := hvr.cell 1; have z0 := hvr.free 0; have z1 := hvr.free 1; simp only [List.getElem?_toArray, List.getElem?_cons_succ, List.getElem?_cons_zero] at t0 t1; have HXX := Lib.hid (retIntE_store (er := er) hi3 hvr (HBW.out.trans (hb.mono (by omega))) (by omega)); clear hf2 hn2 hi hi3 hvr hq))
  go_wp2_with (fail)
  exact bodyPost_ret (v := .tuple #[.agg #[.bool f2, .slice A2 n2 c2], .int .i64 er]) (by simp [results, Tryd.results27, go_sem, t0, t1]) rfl HXX.out
end Go.Proofs.YtnkklmbmodkogaaDoor

/-! Cp1 -/
namespace Go.Proofs.YtnkklmbmodkogaaDoor
open Go.RowKit

theorem be_cons (v n : Nat) : be v (n + 1) = byt v n :: be v n := by
  unfold be
  rw [List.range_succ_eq_map, List.map_cons, List.map_map]
  congr 1
  apply List.map_congr_left
  intro j _
  show byt v (n + 1 - 1 - (j + 1)) = byt v (n - 1 - j)
  congr 1
  omega
/-- Bytes of the same number of digits compare as the numbers. -/
theorem cmpB_be (u v : Nat) : ∀ n, Lib.compareBytes ((be u n).map fun x => UInt8.ofNat x.toNat) ((be v n).map fun x => UInt8.ofNat x.toNat) = cmpN (u % 256 ^ n) (v % 256 ^ n)
  | 0 => by simp [be, Lib.compareBytes, Nat.mod_one, cmpN]
  | n + 1 => by
    rw [be_cons, be_cons, List.map_cons, List.map_cons, Lib.compareBytes, cmpB_be u v n, mod_pow_succ', mod_pow_succ']
    have hp : 0 < 256 ^ n := Nat.pow_pos (by omega)
    have hu := Nat.mod_lt u hp
    have hv := Nat.mod_lt v hp
    have du : u / 256 ^ n % 256 < 256 := Nat.mod_lt _ (by omega)
    have dv : v / 256 ^ n % 256 < 256 := Nat.mod_lt _ (by omega)
    have l1 := lex_lt (x := u / 256 ^ n % 256) (y := v / 256 ^ n % 256) hu hv
    have l2 := lex_lt (x := v / 256 ^ n % 256) (y := u / 256 ^ n % 256) hv hu
    unfold byt
    generalize u / 256 ^ n % 256 = a at *
    generalize v / 256 ^ n % 256 = b at *
    generalize u % 256 ^ n = x at *
    generalize v % 256 ^ n = y at *
    simp only [Int.toNat_natCast, UInt8.lt_iff_toNat_lt, UInt8.toNat_ofNat_of_lt' (show a < UInt8.size from du), UInt8.toNat_ofNat_of_lt' (show b < UInt8.size from dv)]
    unfold cmpN
    split
    · rw [if_pos (l1.2 (by split <;> omega))]
    · split
      · rw [if_neg (fun h => by have := l1.1 h; split at this <;> omega), if_pos (l2.2 (by split <;> omega))]
      · have e : a = b := by omega
        subst e
        clear l1 l2 hu hv hp
        generalize 256 ^ n * a = P at *
        split <;> (try split) <;> (try split) <;> (try split) <;> omega
theorem cmpI_len (n m : Nat) : Lib.compareInt (n : Int) (m : Int) = if n < m then -1 else if m < n then 1 else 0 := by
  unfold Lib.compareInt
  split <;> split <;> (try split) <;> (try split) <;> omega
/-- The bytes of a slice, as the library reads them. -/
theorem bytesOf_bys {w : World} {B n c : Nat} {A : Option Addr} {ds : List Int} (h : Bys w B A ds) (hb : Bytes ds) (hn : n = ds.length) :
    (Extern.Bytes.bytesOf (.slice A n c)).run Tryd.prog w = .ok (strOf ds) w := by
  subst hn
  cases ds with
  | nil =>
    cases A with
    | none => rfl
    | some a => rfl
  | cons d ds =>
    obtain ⟨b, o, rfl, _, hcell⟩ := h (by simp)
    have e0 : ∀ j : Nat, (⟨b, o, none⟩ : Addr).add j = ⟨b, o + j, none⟩ := fun j => by unfold Addr.add; split <;> simp_all
    have := Lib.run_loadBytesX (P := Tryd.prog) w (d :: ds) ⟨b, o, none⟩ .empty (fun j x hx => by
      have hj : j < (d :: ds).length := (List.getElem?_eq_some_iff.1 hx).1
      rw [e0, hcell j hj, hx]
      rfl)
    rw [show (Extern.Bytes.bytesOf (.slice (some ⟨b, o, none⟩) (d :: ds).length c)) = Extern.Bytes.loadBytes ⟨b, o, none⟩ (d :: ds).length .empty from rfl, this]
    simp only [strOf, ByteArray.empty, ByteArray.emptyWithCapacity]
    congr 1
    congr 1
    simp [Lib.bytesOf]
    rfl
end Go.Proofs.YtnkklmbmodkogaaDoor

/-! Cp2 -/
namespace Go.Proofs.YtnkklmbmodkogaaDoor
open Go.RowKit

theorem baCmp_run {w : World} {B B' n c c' : Nat} {A A' : Option Addr} {u v : Nat} (h : Bys w B A (be u n)) (h' : Bys w B' A' (be v n)) (hu : u < 256 ^ n) (hv : v < 256 ^ n) :
    (callFunc 93 #[.slice A n c, .slice A' n c']).run Tryd.prog w = .ok (.value (.int .i64 (cmpN u v))) w := by
  rw [run_callFunc_extern Tryd.func93 (by kernel_rfl) (by kernel_rfl) (by kernel_rfl) (e := Extern.BytealgCompare.compare) (by kernel_rfl)]
  have e : (Extern.BytealgCompare.compare #[.slice A n c, .slice A' n c']).run Tryd.prog w = .ok (.int .i64 (cmpN u v)) w := by
    change Sem.run Tryd.prog (do pure (goInt (Extern.BytealgCompare.cmp (← Extern.Bytes.bytesOf (.slice A n c)) (← Extern.Bytes.bytesOf (.slice A' n c'))))) w = _
    have e1 := bytesOf_bys (c := c) h (be_bytes u n) (be_len u n).symm
    have e2 := bytesOf_bys (c := c') h' (be_bytes v n) (be_len v n).symm
    simp only [Sem.run_bind, Sem.run_pure, Result.andThen, e1, e2]
    rw [Lib.cmp_eq]
    have := cmpB_be u v n
    rw [Nat.mod_eq_of_lt hu, Nat.mod_eq_of_lt hv] at this
    simp only [strOf]
    rw [this]
    rfl
  rw [e]
  rfl
theorem bytesCmp_any {B B' n c c' : Nat} {A A' : Option Addr} {u v : Nat} (w : World) (h : Bys w B A (be u n)) (h' : Bys w B' A' (be v n)) (hu : u < 256 ^ n) (hv : v < 256 ^ n) :
    Calls Tryd.prog 75 #[.slice A n c, .slice A' n c'] w fun e w' => e = .returned (.int .i64 (cmpN u v)) ∧ w = w' := by
  have hr := baCmp_run (c := c) (c' := c') h h' hu hv
  clear h h' hu hv
  go_enter Tryd.func75, Tryd.ntmps75
  go_wp2
  go_ret
  exact ⟨rfl, rfl⟩
theorem cmpI_blen {u v : Nat} (h : blen u ≠ blen v) : Lib.compareInt (blen u : Int) (blen v : Int) = cmpN u v := by
  rw [cmpI_len]
  rcases Nat.lt_or_gt_of_ne h with h1 | h1
  · rw [if_pos h1, cmpN_lt (blen_mono h1)]
  · rw [if_neg (by omega), if_pos h1, cmpN_gt (blen_mono h1)]
set_option maxHeartbeats 400000 in
theorem cmpDig_any {B B' n m c c' : Nat} {A A' : Option Addr} {u v : Nat} (w : World) (h : Bys w B A (be u n)) (h' : Bys w B' A' (be v m)) (hn : n = blen u) (hm : m = blen v) :
    Calls Tryd.prog 52 #[.slice A n c, .slice A' m c'] w fun e w' => e = .returned (.int .i64 (cmpN u v)) ∧ w = w' := by
  by_cases e : n = m
  · subst e
    have hc := Lib.hid (bytesCmp_any (c := c) (c' := c') w h h' (by rw [hn]; exact blen_hi u) (by rw [hm]; exact blen_hi v))
    clear h h' hn hm
    go_enter Tryd.func52, Tryd.ntmps52
    go_wp2_with (go_at_call 75; refine hc.out.mono ?_; rintro e w' ⟨rfl, rfl⟩)
    go_ret
    exact ⟨rfl, rfl⟩
  · have hc := cmpI_blen (u := u) (v := v) (by omega)
    rw [← hn, ← hm] at hc
    have HC := Lib.hid hc
    have hne : ((n : Int) == (m : Int)) = false := by simp; omega
    have hne' : ((n : Int) != (m : Int)) = true := by simp; omega
    clear h h' hn hm hc e
    go_enter Tryd.func52, Tryd.ntmps52
    go_wp2_with (go_at_call 74; refine (Tryd.cmp_Compare_int _ _ _).mono ?_; rintro e w' ⟨rfl, rfl⟩)
    go_ret
    exact ⟨ret_i HC.out, rfl⟩
theorem cmpN_vals (u v : Nat) : cmpN u v = -1 ∨ cmpN u v = 0 ∨ cmpN u v = 1 := by unfold cmpN; split <;> (try split) <;> simp
theorem cmpN_negs (u v : Nat) : -cmpN u v = cmpN v u := by unfold cmpN; split <;> split <;> (try split) <;> (try split) <;> omega

set_option maxRecDepth 100000 in
set_option maxHeartbeats 1000000 in
theorem compare_num (x y : Value) (a b : Int) (w : World) (hx : IntIs w w.heap.size x a) (hy : IntIs w w.heap.size y b) (ha : blen a.natAbs ≤ 64) (hb : blen b.natAbs ≤ 64) :
    Calls Tryd.prog 29 #[x, y] w fun e w' => e = .returned (.int .i64 (cmpZ a b)) ∧ Below w.heap.size w w' := by
  obtain ⟨f, A, m, c, rfl, hx, hf, hn⟩ := hx.look
  obtain ⟨f', A', m', c', rfl, hy, hf', hn'⟩ := hy.look
  obtain ⟨v0, v1, hbW, hsz⟩ := boxes2 w 24 24 #[.bool f, .slice A m c] #[.bool f', .slice A' m' c']
  have HX := Lib.hid (hx.step hbW)
  have HY := Lib.hid (hy.step hbW)
  have HA := Lib.hid ha
  have HB := Lib.hid hb
  have HN := Lib.hid hn
  have HN' := Lib.hid hn'
  have HF := Lib.hid hf
  have HF' := Lib.hid hf'
  clear hx hy ha hb hf hf' hn hn'
  go_enter Tryd.func29, Tryd.ntmps29
  go_wp2_with (fail)
  generalize (w.alloc (.cells #[.bool f, .slice A m c] 24)).alloc (.cells #[.bool f', .slice A' m' c'] 24) = W at *
  have hlt : w.heap.size + 1 < W.heap.size := by omega
  refine (valid_int _ a W HX.out HA.out).mono ?_
  rintro e w1 ⟨rfl, q1⟩
  have HX1 := Lib.hid (HX.out.step q1)
  have HY1 := Lib.hid (HY.out.step q1)
  have r0 := (v1.below q1 (by omega)).cell 0
  have r1 := (v1.below q1 (by omega)).cell 1
  simp only [List.getElem?_toArray, List.getElem?_cons_succ, List.getElem?_cons_zero] at r0 r1
  go_wp2_with (fail)
  clear r0 r1
  refine (valid_int _ b w1 HY1.out HB.out).mono ?_
  rintro e w2 ⟨rfl, q2⟩
  have HX2 := Lib.hid (HX1.out.step q2)
  have HY2 := Lib.hid (HY1.out.step q2)
  have q12 := q1.trans (q2.mono q1.size)
  have p0 := v0.below q12 (by omega)
  have p1 := v1.below q12 (by omega)
  have s0 := p0.cell 0; have s1 := p0.cell 1; have s2 := p1.cell 0; have s3 := p1.cell 1
  simp only [List.getElem?_toArray, List.getElem?_cons_succ, List.getElem?_cons_zero] at s0 s1 s2 s3
  have HBW := Lib.hid (hbW.trans (q12.mono (by omega)))
  obtain ⟨-, -, -, -, b1⟩ := HX2.out.open_
  obtain ⟨-, -, -, -, b2⟩ := HY2.out.open_
  rw [← HN.out] at b1
  rw [← HN'.out] at b2
  have HD := Lib.hid (cmpDig_any (c := c) (c' := c') w2 b1 b2 HN.out HN'.out)
  clear HX1 HY1 HX HY p0 p1 v0 v1 q1 q2 q12 hbW b1 b2
  cases f <;> cases f'
  · have E := Lib.hid (cmpZ_pos HF.out HF'.out)
    go_wp2_with (go_at_call 52; refine HD.out.mono ?_; rintro e w' ⟨rfl, rfl⟩)
    go_ret
    exact ⟨ret_i E.out, HBW.out⟩
  · have E := Lib.hid (cmpZ_gt HF.out HF'.out)
    go_wp2_with (fail)
    go_ret
    exact ⟨ret_i E.out.symm, HBW.out⟩
  · have E := Lib.hid (cmpZ_lt HF.out HF'.out)
    go_wp2_with (fail)
    go_ret
    exact ⟨ret_i E.out.symm, HBW.out⟩
  · have E := Lib.hid (cmpZ_neg HF.out HF'.out)
    have G := cmpN_negs a.natAbs b.natAbs
    have V := cmpN_vals a.natAbs b.natAbs
    generalize cmpN a.natAbs b.natAbs = cc at *
    generalize cmpN b.natAbs a.natAbs = dd at *
    have hw : IntKind.i64.wrap (-cc) = dd := by rw [IntKind.wrap_i64]; omega
    clear G V
    go_wp2_with (go_at_call 52; refine HD.out.mono ?_; rintro e w' ⟨rfl, rfl⟩)
    go_ret
    exact ⟨ret_i E.out, HBW.out⟩
set_option maxHeartbeats 400000 in
theorem sign_num (x : Value) (a : Int) (w : World) (hx : IntIs w w.heap.size x a) (ha : blen a.natAbs ≤ 64) :
    Calls Tryd.prog 17 #[x] w fun e w' => e = .returned (.int .i64 (cmpZ a 0)) ∧ Below w.heap.size w w' := by
  obtain ⟨f, A, m, c, rfl, hx, -, -⟩ := hx.look
  have hb := below_alloc w (.cells #[.bool f, .slice A m c] 24)
  have HC := Lib.hid (compare_num _ _ a 0 _ (hx.step hb) (intIs_zero _ _) ha (by simp [blen_zero]))
  have HB := Lib.hid hb
  clear hx ha hb
  go_enter Tryd.func17, Tryd.ntmps17
  go_wp2_with (go_at_call 29; refine HC.out.mono ?_; rintro e w' ⟨rfl, hq⟩)
  have HQ := Lib.hid (bstep HB.out hq)
  clear hq
  go_wp2_with (fail)
  go_ret
  exact ⟨rfl, HQ.out⟩
set_option maxHeartbeats 400000 in
theorem sign_bad {f : Bool} {n v : Nat} (x : Value) (w : World) (hx : RawIs w w.heap.size x f n v) (h : validB f n v = false) :
    Calls Tryd.prog 17 #[x] w fun e w' => e = .returned (.int .i64 0) ∧ Below w.heap.size w w' := by
  obtain ⟨A, c, rfl, hx⟩ := hx.look
  have hb := below_alloc w (.cells #[.bool f, .slice A n c] 24)
  have HC := Lib.hid (cmp_bad1 _ _ _ (hx.step hb) h (intIs_zero _ _).raw)
  have HB := Lib.hid hb
  clear hx h hb
  go_enter Tryd.func17, Tryd.ntmps17
  go_wp2_with (go_at_call 29; refine HC.out.mono ?_; rintro e w' ⟨rfl, hq⟩)
  have HQ := Lib.hid (bstep HB.out hq)
  clear hq
  go_wp2_with (fail)
  go_ret
  exact ⟨rfl, HQ.out⟩
end Go.Proofs.YtnkklmbmodkogaaDoor

/-! Sm1 -/
namespace Go.Proofs.YtnkklmbmodkogaaDoor
open Go.RowKit

def sameB (e f : Int) (z z' : Int) : Bool := decide (e = f) && decide (z = z')
set_option maxHeartbeats 400000 in
theorem same_law (x y : Value) (e f z z' : Int) (w : World) (hx : IntIs w w.heap.size x z) (hy : IntIs w w.heap.size y z') :
    Calls Tryd.prog 18 #[x, .int .i64 e, y, .int .i64 f] w fun en w' => en = .returned (.bool (sameB e f z z')) ∧ Below w.heap.size w w' := by
  obtain ⟨g, A, m, c, rfl, hx, -, -⟩ := hx.look
  obtain ⟨g', A', m', c', rfl, hy, -, -⟩ := hy.look
  obtain ⟨v0, v1, hb, hsz⟩ := boxes2 w 24 24 #[.bool g, .slice A m c] #[.bool g', .slice A' m' c']
  have HS := Lib.hid (same_int _ _ z z' _ (hx.step hb) (hy.step hb))
  have HB := Lib.hid hb
  clear hx hy hb v0 v1 hsz
  by_cases h : e = f
  · have hd : (e == f) = true := by simpa using h
    have E : sameB e f z z' = decide (z = z') := by unfold sameB; rw [decide_eq_true h, Bool.true_and]
    rw [E]
    clear E h
    generalize decide (z = z') = r at *
    go_enter Tryd.func18, Tryd.ntmps18
    go_wp2_with (go_at_call 22; refine HS.out.mono ?_; rintro en w' ⟨rfl, hq⟩)
    have HQ := Lib.hid (bstep HB.out hq)
    clear hq
    go_wp2_with (fail)
    go_ret
    exact ⟨rfl, HQ.out⟩
  · have hd : (e == f) = false := by simpa using h
    have E : sameB e f z z' = false := by unfold sameB; rw [decide_eq_false h, Bool.false_and]
    rw [E]
    clear E h HS
    go_enter Tryd.func18, Tryd.ntmps18
    go_wp2_with (fail)
    go_ret
    exact ⟨rfl, HB.out⟩

set_option maxHeartbeats 400000 in
theorem big_one (b : Nat) (A : Option Addr) (n c : Nat) (w : World) (h1 : w.cell? ⟨b, 1, none⟩ = some (.slice A n c)) :
    Calls Tryd.prog 11 #[.slice (some ⟨b, 0, none⟩) 1 1] w fun e w' => e = .returned (.bool (decide (80 < n))) ∧ w = w' := by
  by_cases h : 80 < n
  · rw [decide_eq_true h]
    have hc : (80 : Int) < n := by omega
    go_enter Tryd.func11, Tryd.ntmps11
    go_wp2
    go_loop [3] (fun i => i = .int .i64 0) (fun _ => 0)
    case atStart => rfl
    case round =>
      subst hrel
      go_wp2
      go_ret
      exact ⟨rfl, rfl⟩
  · rw [decide_eq_false h]
    have hc : ¬ (80 : Int) < n := by omega
    go_enter Tryd.func11, Tryd.ntmps11
    go_wp2
    go_loop [3] (fun i => ∃ k : Nat, k ≤ 1 ∧ i = .int .i64 k) (fun i => (1 - intOf i).toNat)
    case atStart => exact ⟨0, by omega, rfl⟩
    case round =>
      obtain ⟨k, hk, rfl⟩ := hrel
      match k, hk with
      | 0, _ =>
        go_wp2
        go_round
        case rel => exact ⟨1, by omega, rfl⟩
        case measure => simp [intOf]
      | 1, _ =>
        go_wp2
        go_ret
        exact ⟨rfl, rfl⟩

set_option maxHeartbeats 1000000 in
theorem big_two (b : Nat) (A A' : Option Addr) (n c m c' : Nat) (w : World) (h1 : w.cell? ⟨b, 1, none⟩ = some (.slice A n c)) (h3 : w.cell? ⟨b, 3, none⟩ = some (.slice A' m c')) :
    Calls Tryd.prog 11 #[.slice (some ⟨b, 0, none⟩) 2 2] w fun e w' => e = .returned (.bool (decide (80 < n) || decide (80 < m))) ∧ w = w' := by
  by_cases h : 80 < n
  · rw [decide_eq_true h, Bool.true_or]
    have hc : (80 : Int) < n := by omega
    clear h3
    go_enter Tryd.func11, Tryd.ntmps11
    go_wp2
    go_loop [3] (fun i => i = .int .i64 0) (fun _ => 0)
    case atStart => rfl
    case round =>
      subst hrel
      go_wp2
      go_ret
      exact ⟨rfl, rfl⟩
  · rw [decide_eq_false h, Bool.false_or]
    have hc : ¬ (80 : Int) < n := by omega
    by_cases hm : 80 < m
    · rw [decide_eq_true hm]
      have hd : (80 : Int) < m := by omega
      go_enter Tryd.func11, Tryd.ntmps11
      go_wp2
      go_loop [3] (fun i => ∃ k : Nat, k ≤ 1 ∧ i = .int .i64 k) (fun i => (2 - intOf i).toNat)
      case atStart => exact ⟨0, by omega, rfl⟩
      case round =>
        obtain ⟨k, hk, rfl⟩ := hrel
        match k, hk with
        | 0, _ =>
          go_wp2
          go_round
          case rel => exact ⟨1, by omega, rfl⟩
          case measure => simp [intOf]
        | 1, _ =>
          go_wp2
          go_ret
          exact ⟨rfl, rfl⟩
    · rw [decide_eq_false hm]
      have hd : ¬ (80 : Int) < m := by omega
      go_enter Tryd.func11, Tryd.ntmps11
      go_wp2
      go_loop [3] (fun i => ∃ k : Nat, k ≤ 2 ∧ i = .int .i64 k) (fun i => (2 - intOf i).toNat)
      case atStart => exact ⟨0, by omega, rfl⟩
      case round =>
        obtain ⟨k, hk, rfl⟩ := hrel
        match k, hk with
        | 0, _ =>
          go_wp2
          go_round
          case rel => exact ⟨1, by omega, rfl⟩
          case measure => simp [intOf]
        | 1, _ =>
          go_wp2
          go_round
          case rel => exact ⟨2, by omega, rfl⟩
          case measure => simp [intOf]
        | 2, _ =>
          go_wp2
          go_ret
          exact ⟨rfl, rfl⟩
end Go.Proofs.YtnkklmbmodkogaaDoor
