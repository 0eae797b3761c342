/- number.Mul. number.DivMod: the region that divides. number.DivMod, over Ints' values; the division of absolute values is a premise. -/
import Derived.Test.YtnkklmbmodkogaaDoorG7
import Derived.Deep.DeepCutAuto
/-! Mu1 -/
namespace Go.Proofs.YtnkklmbmodkogaaDoor
open Go.RowKit

def mulZ (a b : Int) : Int := if fits (a.natAbs * b.natAbs) then a * b else 0
def mulE (a b : Int) : Int := if fits (a.natAbs * b.natAbs) then 0 else 7
/-- What the region leaves: a variable that holds the words of v. -/
def VarOf (w0 wx : World) (s : Value) (v : Nat) : Prop := ∃ p : Nat, s = .pointer (some ⟨p, 0, none⟩) ∧ w0.heap.size ≤ p ∧ Box wx p 56 (lm v) ∧ Below w0.heap.size w0 wx
theorem varOf_row {w0 X : World} {p v : Nat} {zs : List Int} (hz : Box X p 56 zs) (hp : w0.heap.size ≤ p) (h : Below w0.heap.size w0 X) : VarOf w0 (X.setRow p (mag (lm v))) (.pointer (some ⟨p, 0, none⟩)) v :=
  ⟨_, rfl, hp, hz.setRow, below_setRow h hp⟩
theorem varOf_last {w0 X : World} {v : Nat} (h : Below w0.heap.size w0 X) :
    VarOf w0 ((X.alloc (.cells #[.int .u64 0, .int .u64 0, .int .u64 0, .int .u64 0, .int .u64 0, .int .u64 0, .int .u64 0, .int .u64 0] 56)).setRow X.heap.size (mag (lm v))) (.pointer (some ⟨X.heap.size, 0, none⟩)) v :=
  varOf_row (show Box _ _ 56 [0, 0, 0, 0, 0, 0, 0, 0] from heap_alloc_new X _) h.size (h.trans ((below_alloc X _).mono h.size))
theorem mulRes (a b : Int) : (if fits (a.natAbs * b.natAbs) then sgn (decide (a < 0) != decide (b < 0)) (prodM (a.natAbs * b.natAbs)) else 0) = mulZ a b ∧ (if fits (a.natAbs * b.natAbs) then (0 : Int) else 7) = mulE a b := by
  refine ⟨?_, rfl⟩
  unfold mulZ
  by_cases h : fits (a.natAbs * b.natAbs) = true
  · rw [if_pos h, if_pos h, prodM_yes h, sgn_mul]
  · rw [if_neg h, if_neg h]
theorem bstep {w0 X Y : World} (h : Below w0.heap.size w0 X) (hq : Below X.heap.size X Y) : Below w0.heap.size w0 Y := h.trans (hq.mono h.size)
theorem bal {w0 X : World} (h : Below w0.heap.size w0 X) (o : Obj) : Below w0.heap.size w0 (X.alloc o) := h.trans ((below_alloc X o).mono h.size)
theorem box_al {X Y : World} (hq : Below (X.alloc (.cells #[.int .u64 0, .int .u64 0, .int .u64 0, .int .u64 0, .int .u64 0, .int .u64 0, .int .u64 0, .int .u64 0] 56)).heap.size (X.alloc (.cells #[.int .u64 0, .int .u64 0, .int .u64 0, .int .u64 0, .int .u64 0, .int .u64 0, .int .u64 0, .int .u64 0] 56)) Y) : Box Y X.heap.size 56 [0, 0, 0, 0, 0, 0, 0, 0] :=
  (show Box _ _ 56 [0, 0, 0, 0, 0, 0, 0, 0] from heap_alloc_new X _).below hq (by simp)
theorem box_ald {X Y : World} (hq : Below (X.alloc (.cells #[.int .u64 0, .int .u64 0, .int .u64 0, .int .u64 0, .int .u64 0, .int .u64 0, .int .u64 0, .int .u64 0] 56)).drew.heap.size (X.alloc (.cells #[.int .u64 0, .int .u64 0, .int .u64 0, .int .u64 0, .int .u64 0, .int .u64 0, .int .u64 0, .int .u64 0] 56)).drew Y) : Box Y X.heap.size 56 [0, 0, 0, 0, 0, 0, 0, 0] :=
  (show Box _ _ 56 [0, 0, 0, 0, 0, 0, 0, 0] from heap_alloc_new X _).drew.below hq (by simp)
theorem below_drew0 (w : World) : Below w.heap.size w w.drew := (Below.refl _ w).drew
/-- The store of a magnitude, as the walk has it. -/
theorem run_st8 {w : World} {p : Nat} (h : w.heap[p]? = some (.cells #[.int .u64 0, .int .u64 0, .int .u64 0, .int .u64 0, .int .u64 0, .int .u64 0, .int .u64 0, .int .u64 0] 56 (0, 0))) (xs : List Int) (h8 : xs.length = 8) :
    Sem.run Tryd.prog (storeCells ⟨p, 0, none⟩ (mag xs).toList) w = .ok () (w.setRow p (mag xs)) := by
  have := run_storeCells_from (P := Tryd.prog) p 56 (mag xs).toList 0 _ w h (by simp [mag_size, h8]) (fun v hv => (Array.all_eq_true_iff_forall_mem.1 (mag_one xs)) v (by simpa using hv))
  simpa using this
set_option maxRecDepth 100000 in
set_option maxHeartbeats 2000000 in
theorem mul_int (x y : Value) (a b : Int) (w : World) (hx : IntIs w w.heap.size x a) (hy : IntIs w w.heap.size y b) (ha : blen a.natAbs ≤ 64) (hb : blen b.natAbs ≤ 64) :
    Calls Tryd.prog 28 #[x, y] w (RetIntE w (mulZ a b) (mulE a b)) := by
  obtain ⟨f, A, m, c, rfl, hx, hf, hn⟩ := hx.look
  obtain ⟨f', A', m', c', rfl, hy, hf', hn'⟩ := hy.look
  obtain ⟨v0, v1, v2, hbW, hsz⟩ := boxes3 w 24 24 24 #[.bool f, .slice A m c] #[.bool f', .slice A' m' c'] #[.bool false, .slice none 0 0]
  have HX := Lib.hid (hx.step hbW)
  have HY := Lib.hid (hy.step hbW)
  have HA := Lib.hid ha
  have HB := Lib.hid hb
  have HF := Lib.hid hf
  have HF' := Lib.hid hf'
  clear hx hy ha hb hf hf' hn hn'
  go_enter Tryd.func28, Tryd.ntmps28
  go_wp2_with (fail)
  generalize ((w.alloc (.cells #[.bool f, .slice A m c] 24)).alloc (.cells #[.bool f', .slice A' m' c'] 24)).alloc (.cells #[.bool false, .slice none 0 0] 24) = W at *
  have hlt : w.heap.size + 2 < W.heap.size := by omega
  refine (valid_int _ a W HX.out HA.out).mono ?_
  rintro e w1 ⟨rfl, q1⟩
  have HX1 := Lib.hid (HX.out.step q1)
  have HY1 := Lib.hid (HY.out.step q1)
  have r0 := (v1.below q1 (by omega)).cell 0
  have r1 := (v1.below q1 (by omega)).cell 1
  simp only [List.getElem?_toArray, List.getElem?_cons_succ, List.getElem?_cons_zero] at r0 r1
  go_wp2_with (fail)
  clear r0 r1
  refine (valid_int _ b w1 HY1.out HB.out).mono ?_
  rintro e w2 ⟨rfl, q2⟩
  have HX2 := Lib.hid (HX1.out.step q2)
  have HY2 := Lib.hid (HY1.out.step q2)
  have q12 := q1.trans (q2.mono q1.size)
  have s1 := (v0.below q12 (by omega)).cell 1
  have s2 := (v1.below q12 (by omega)).cell 1
  simp only [List.getElem?_toArray, List.getElem?_cons_succ, List.getElem?_cons_zero] at s1 s2
  clear HX1 HY1
  have hl2 : w.heap.size + 2 < w2.heap.size := Nat.lt_of_lt_of_le hlt q12.size
  have hl20 : w.heap.size < w2.heap.size := by omega
  have hl21 : w.heap.size + 1 < w2.heap.size := by omega
  go_wp2_with (fail)
  generalize hpd : prodM (a.natAbs * b.natAbs) = pd at *
  have hM := Lib.hid (fun w => multiply_mag a.natAbs b.natAbs w (abs_lt HA.out) (abs_lt HB.out))
  rw [hpd] at hM
  have hm8 : (mag (lm pd)).size = 8 := by rw [mag_size, lm_len]
  go_cut [6, 7] (fun s6 s7 wx => s7 = .bool (fits (a.natAbs * b.natAbs)) ∧ VarOf w2 wx s6 pd)
  case first =>
    go_region_held3 (fun w' => w'.cell? ⟨w.heap.size, 1, none⟩ = some (.slice A m c) ∧ w'.cell? ⟨w.heap.size + 1, 1, none⟩ = some (.slice A' m' c')) (first | exact ⟨by assumption, by assumption⟩ | exact ⟨(cell_setRow_other _ _ _ _ (by simp; omega)).trans (by first | assumption | go_keep), (cell_setRow_other _ _ _ _ (by simp; omega)).trans (by first | assumption | go_keep)⟩ | go_keep)
      (first
        | (go_at_call_of 42 (Value.slice A' m' c'); refine (magOf_int (f := f') b _ ?_ HB.out).mono ?_; (first | exact HY2.out.step hb | exact (HY2.out.step hb).step (below_alloc _ _)); rintro e w4 ⟨rfl, hq⟩; (first | have hb2 := bstep hb hq | have hb2 := bstep (bal hb _) hq); have hl4 := Nat.lt_of_lt_of_le hl2 hb2.size; have s12 := kept_cell hb2 s1 hl20; have s22 := kept_cell hb2 s2 hl21; (first | have hz := box_al hq | have hz := Box.below hz hq hz.lt | skip); clear hq)
        | (go_at_call 50; refine (hM.out _).mono ?_; rintro e w5 ⟨rfl, hq⟩; (first | have hb3 := bstep hb2 hq | have hb3 := bstep (bal hb2 _) hq); have hl5 := Nat.lt_of_lt_of_le hl2 hb3.size; have s13 := kept_cell hb3 s1 hl20; have s23 := kept_cell hb3 s2 hl21; (first | have hz := box_al hq | have hz := Box.below hz hq hz.lt | skip); have hst := run_st8 (heap_alloc_new w5 (.cells #[.int .u64 0, .int .u64 0, .int .u64 0, .int .u64 0, .int .u64 0, .int .u64 0, .int .u64 0, .int .u64 0] 56)) (lm pd) (lm_len pd); (first | have hstz := run_st8 hz (lm pd) (lm_len pd) | skip); clear hq)
        | (go_at_call_of 42 (Value.slice A m c); refine (magOf_int (f := f) a _ ?_ HA.out).mono ?_; (first | exact HX2.out | exact HX2.out.step (below_alloc _ _).drew); rintro e w3 ⟨rfl, hq⟩; (first | have hb := bstep (below_drew0 w2) hq | have hb := bstep ((below_alloc w2 _).drew) hq); have hl3 := Nat.lt_of_lt_of_le hl2 hb.size; have s11 := kept_cell hb s1 hl20; have s21 := kept_cell hb s2 hl21; (first | have hz := box_ald hq | skip); clear hq))
    all_goals
      go_wp2_with (fail)
      go_meet
      first
        | exact ⟨rfl, varOf_last hb3⟩
        | (refine ⟨rfl, varOf_row hz ?_ hb3⟩; first | exact Nat.le_refl _ | exact hb.size | exact hb2.size)
  case rest =>
    obtain ⟨rfl, p, rfl, hp, hbx, hbc⟩ := hcut
    have hbq := q12.trans (hbc.mono q12.size)
    have k0 := (v0.below hbq (by omega)).cell 0
    have k1 := (v1.below hbq (by omega)).cell 0
    have hr := v2.below hbq (by omega)
    have hlr : w.heap.size + 2 < wc.heap.size := Nat.lt_of_lt_of_le hl2 hbc.size
    simp only [List.getElem?_toArray, List.getElem?_cons_zero] at k0 k1
    have HR := Lib.hid (mulRes a b)
    rw [← HF.out, ← HF'.out, hpd] at HR
    have HBX := Lib.hid hbx
    have HBR := Lib.hid hr
    have HBW := Lib.hid (hbW.trans (hbq.mono (by omega)))
    have HPL := Lib.hid (show pd < 18446744073709551616 ^ 8 from hpd ▸ prodM_lt _)
    clear hbx hr hM hm8 hpd hbq hbc q12 q1 q2 s1 s2 HX HY HX2 HY2 v0 v1 v2 hbW
    generalize fits (a.natAbs * b.natAbs) = ok at *
    generalize mulZ a b = zz at *
    generalize mulE a b = er at *
    go_wp2_with (first | (refine ldm rfl _ rfl _ rfl _ HBX.out (lm_len _) ?_))
    refine (checked_any _ pd ok _ _ HPL.out rfl).mono ?_
    rw [show (!(f == f')) = (f != f') from rfl, HR.out.1, HR.out.2]
    rintro e w5 ⟨⟨x1, rfl, hi⟩, hq⟩
    obtain ⟨f2, A2, n2, c2, rfl, hi3, hf2, hn2⟩ := hi.look
    clear hf2 hn2 hi
    have hvr := HBR.out.below hq hlr
    have s0 := hvr.cell 0; have s1 := hvr.cell 1; have t0 := hvr.free 0; have t1 := hvr.free 1
    simp only [List.getElem?_toArray, List.getElem?_cons_succ, List.getElem?_cons_zero] at s0 s1
    clear k0 k1
    go_wp2_with (fail)
    have HXX := Lib.hid (retIntE_store (er := er) hi3 hvr (HBW.out.trans (hq.mono (by omega))) (by omega))
    exact bodyPost_ret (v := .tuple #[.agg #[.bool f2, .slice A2 n2 c2], .int .i64 er]) (by simp [results, Tryd.results28, go_sem, s0, s1]) rfl HXX.out
end Go.Proofs.YtnkklmbmodkogaaDoor

/-! Dm1 -/
namespace Go.Proofs.YtnkklmbmodkogaaDoor
open Go.RowKit

/-- What the division of absolute values answers. -/
def DivOK (u v : Nat) : Prop := ∀ w : World, Calls Tryd.prog 56 #[.agg (mag (lm u)), .agg (mag (lm v))] w fun e w' => e = .returned (.tuple #[.agg (mag (lm (u / v))), .agg (mag (lm (u % v)))]) ∧ Below w.heap.size w w'
theorem divOK_small {u v : Nat} (hu : u < 18446744073709551616 ^ 8) (hv0 : 0 < v) (hv : v < 18446744073709551616) : DivOK u v := fun w => by
  rcases Nat.lt_or_ge u v with h | h
  · rw [Nat.div_eq_of_lt h, Nat.mod_eq_of_lt h]
    exact divide_less u v w h hu (small_lt v hv)
  · exact divide_limb u v w h hu hv0 hv
theorem DivOK.raw {u v : Nat} (h : DivOK u v) {xs : List Int} (hx : lm v = xs) (w : World) :
    Calls Tryd.prog 56 #[.agg (mag (lm u)), .agg (mag xs)] w fun e w' => e = .returned (.tuple #[.agg (mag (lm (u / v))), .agg (mag (lm (u % v)))]) ∧ Below w.heap.size w w' := hx ▸ h w

/-- Two fresh variables of magnitudes, filled in either order. -/
theorem two_st {Y : World} {s t : Nat} (h1 : Box Y s 56 [0, 0, 0, 0, 0, 0, 0, 0]) (h2 : Box Y t 56 [0, 0, 0, 0, 0, 0, 0, 0]) (hne : s ≠ t) (xs ys : List Int) (hx : xs.length = 8) (hy : ys.length = 8) :
    Sem.run Tryd.prog (storeCells ⟨s, 0, none⟩ (mag xs).toList) Y = .ok () (Y.setRow s (mag xs)) ∧ Sem.run Tryd.prog (storeCells ⟨t, 0, none⟩ (mag ys).toList) (Y.setRow s (mag xs)) = .ok () ((Y.setRow s (mag xs)).setRow t (mag ys)) ∧
    Sem.run Tryd.prog (storeCells ⟨t, 0, none⟩ (mag xs).toList) Y = .ok () (Y.setRow t (mag xs)) ∧ Sem.run Tryd.prog (storeCells ⟨s, 0, none⟩ (mag ys).toList) (Y.setRow t (mag xs)) = .ok () ((Y.setRow t (mag xs)).setRow s (mag ys)) :=
  ⟨run_st8 h1 xs hx, run_st8 (h2.setRow_other (Ne.symm hne)) ys hy, run_st8 h2 xs hx, run_st8 (h1.setRow_other hne) ys hy⟩
abbrev zcells : Obj := .cells #[.int .u64 0, .int .u64 0, .int .u64 0, .int .u64 0, .int .u64 0, .int .u64 0, .int .u64 0, .int .u64 0] 56
theorem znew (X : World) : Box (X.alloc zcells) X.heap.size 56 [0, 0, 0, 0, 0, 0, 0, 0] := heap_alloc_new X _
theorem znew2 (X : World) : Box ((X.alloc zcells).alloc zcells) X.heap.size 56 [0, 0, 0, 0, 0, 0, 0, 0] ∧ Box ((X.alloc zcells).alloc zcells) (X.heap.size + 1) 56 [0, 0, 0, 0, 0, 0, 0, 0] :=
  ⟨(znew X).alloc _, by have := znew (X.alloc zcells); simpa using this⟩

/-- What the region leaves: two variables that hold the words of u and v. -/
def VarsOf (w0 wx : World) (s t : Value) (u v : Nat) : Prop := ∃ p q : Nat, s = .pointer (some ⟨p, 0, none⟩) ∧ t = .pointer (some ⟨q, 0, none⟩) ∧ w0.heap.size ≤ p ∧ w0.heap.size ≤ q ∧ p ≠ q ∧ Box wx p 56 (lm u) ∧ Box wx q 56 (lm v) ∧ Below w0.heap.size w0 wx
theorem varsOf_row {w0 Y : World} {p q u v : Nat} {zs ys : List Int} (hz : Box Y p 56 zs) (hy : Box Y q 56 ys) (hp : w0.heap.size ≤ p) (hq : w0.heap.size ≤ q) (hne : p ≠ q) (h : Below w0.heap.size w0 Y) :
    VarsOf w0 ((Y.setRow p (mag (lm u))).setRow q (mag (lm v))) (.pointer (some ⟨p, 0, none⟩)) (.pointer (some ⟨q, 0, none⟩)) u v :=
  ⟨p, q, rfl, rfl, hp, hq, hne, hz.setRow.setRow_other hne, (hy.setRow_other (Ne.symm hne)).setRow, below_setRow (below_setRow h hp) hq⟩
/-- The two pointers that the region makes, in the order of time, and what the world is when both are there. -/
def Laid2 (w0 Y : World) (s t : Nat) : Prop := Box Y s 56 [0, 0, 0, 0, 0, 0, 0, 0] ∧ Box Y t 56 [0, 0, 0, 0, 0, 0, 0, 0] ∧ w0.heap.size ≤ s ∧ s < t ∧ Below w0.heap.size w0 Y
theorem laid_both {w0 X : World} {s t : Nat} (h1 : Box X s 56 [0, 0, 0, 0, 0, 0, 0, 0]) (h2 : Box X t 56 [0, 0, 0, 0, 0, 0, 0, 0]) (hs : w0.heap.size ≤ s) (hst : s < t) (hb : Below w0.heap.size w0 X) : Laid2 w0 X s t := ⟨h1, h2, hs, hst, hb⟩
theorem laid_one {w0 X : World} {s : Nat} (h1 : Box X s 56 [0, 0, 0, 0, 0, 0, 0, 0]) (hs : w0.heap.size ≤ s) (hb : Below w0.heap.size w0 X) : Laid2 w0 (X.alloc zcells) s X.heap.size := ⟨h1.alloc _, znew X, hs, h1.lt, bal hb _⟩
theorem laid_none {w0 X : World} (hb : Below w0.heap.size w0 X) : Laid2 w0 ((X.alloc zcells).alloc zcells) X.heap.size (X.heap.size + 1) := ⟨(znew2 X).1, (znew2 X).2, hb.size, Nat.lt_succ_self _, bal (bal hb _) _⟩
theorem Laid2.st {w0 Y : World} {s t : Nat} (h : Laid2 w0 Y s t) (u v : Nat) :
    Sem.run Tryd.prog (storeCells ⟨s, 0, none⟩ (mag (lm u)).toList) Y = .ok () (Y.setRow s (mag (lm u))) ∧ Sem.run Tryd.prog (storeCells ⟨t, 0, none⟩ (mag (lm v)).toList) (Y.setRow s (mag (lm u))) = .ok () ((Y.setRow s (mag (lm u))).setRow t (mag (lm v))) ∧
    Sem.run Tryd.prog (storeCells ⟨t, 0, none⟩ (mag (lm u)).toList) Y = .ok () (Y.setRow t (mag (lm u))) ∧ Sem.run Tryd.prog (storeCells ⟨s, 0, none⟩ (mag (lm v)).toList) (Y.setRow t (mag (lm u))) = .ok () ((Y.setRow t (mag (lm u))).setRow s (mag (lm v))) :=
  two_st h.1 h.2.1 (Nat.ne_of_lt h.2.2.2.1) _ _ (lm_len _) (lm_len _)
theorem Laid2.one {w0 Y : World} {s t u v : Nat} (h : Laid2 w0 Y s t) : VarsOf w0 ((Y.setRow s (mag (lm u))).setRow t (mag (lm v))) (.pointer (some ⟨s, 0, none⟩)) (.pointer (some ⟨t, 0, none⟩)) u v :=
  varsOf_row h.1 h.2.1 h.2.2.1 (Nat.le_of_lt (Nat.lt_of_le_of_lt h.2.2.1 h.2.2.2.1)) (Nat.ne_of_lt h.2.2.2.1) h.2.2.2.2
theorem Laid2.two {w0 Y : World} {s t u v : Nat} (h : Laid2 w0 Y s t) : VarsOf w0 ((Y.setRow t (mag (lm u))).setRow s (mag (lm v))) (.pointer (some ⟨t, 0, none⟩)) (.pointer (some ⟨s, 0, none⟩)) u v :=
  varsOf_row h.2.1 h.1 (Nat.le_of_lt (Nat.lt_of_le_of_lt h.2.2.1 h.2.2.2.1)) h.2.2.1 (Ne.symm (Nat.ne_of_lt h.2.2.2.1)) h.2.2.2.2
theorem box_al2 {X Y : World} (hq : Below ((X.alloc zcells).alloc zcells).heap.size ((X.alloc zcells).alloc zcells) Y) : Box Y X.heap.size 56 [0, 0, 0, 0, 0, 0, 0, 0] ∧ Box Y (X.heap.size + 1) 56 [0, 0, 0, 0, 0, 0, 0, 0] :=
  ⟨(znew2 X).1.below hq (by simp; omega), (znew2 X).2.below hq (by simp)⟩
theorem box_ald2 {X Y : World} (hq : Below ((X.alloc zcells).alloc zcells).drew.heap.size ((X.alloc zcells).alloc zcells).drew Y) : Box Y X.heap.size 56 [0, 0, 0, 0, 0, 0, 0, 0] ∧ Box Y (X.heap.size + 1) 56 [0, 0, 0, 0, 0, 0, 0, 0] :=
  ⟨(znew2 X).1.drew.below hq (by simp; omega), (znew2 X).2.drew.below hq (by simp)⟩
end Go.Proofs.YtnkklmbmodkogaaDoor

/-! Dm2 -/
namespace Go.Proofs.YtnkklmbmodkogaaDoor
open Go.RowKit

/-- The quotient and the remainder. -/
def dmU (d : Bool) (u v : Nat) : Nat := if d && decide (u % v ≠ 0) then u / v + 1 else u / v
def dmR (d : Bool) (u v : Nat) : Nat := if d && decide (u % v ≠ 0) then v - u % v else u % v
def Ret2 (w : World) (z1 z2 er : Int) (e : Ending) (w' : World) : Prop := (∃ x y, e = .returned (.tuple #[x, y, .int .i64 er]) ∧ IntIs w' w'.heap.size x z1 ∧ IntIs w' w'.heap.size y z2) ∧ Below w.heap.size w w'

theorem half_lt {u v : Nat} (h : u < 18446744073709551616 ^ 8) (h2 : v ≤ u / 2) : v + 1 < 18446744073709551616 ^ 8 := by
  have e : (4 : Nat) ≤ 18446744073709551616 ^ 8 := by decide
  generalize (18446744073709551616 : Nat) ^ 8 = M at *
  omega
theorem keep9 {W4 X : World} {g0 g : Nat} {s v0 v1 v2 v3 v4 v5 v6 v7 : Value} (h : Below W4.heap.size W4 X)
    (hc : W4.cell? ⟨g0, 1, none⟩ = some s ∧ W4.cell? ⟨g, 0, none⟩ = some v0 ∧ W4.cell? ⟨g, 1, none⟩ = some v1 ∧ W4.cell? ⟨g, 2, none⟩ = some v2 ∧ W4.cell? ⟨g, 3, none⟩ = some v3 ∧ W4.cell? ⟨g, 4, none⟩ = some v4 ∧ W4.cell? ⟨g, 5, none⟩ = some v5 ∧ W4.cell? ⟨g, 6, none⟩ = some v6 ∧ W4.cell? ⟨g, 7, none⟩ = some v7)
    (h0 : g0 < W4.heap.size) (h1 : g < W4.heap.size) :
    X.cell? ⟨g0, 1, none⟩ = some s ∧ X.cell? ⟨g, 0, none⟩ = some v0 ∧ X.cell? ⟨g, 1, none⟩ = some v1 ∧ X.cell? ⟨g, 2, none⟩ = some v2 ∧ X.cell? ⟨g, 3, none⟩ = some v3 ∧ X.cell? ⟨g, 4, none⟩ = some v4 ∧ X.cell? ⟨g, 5, none⟩ = some v5 ∧ X.cell? ⟨g, 6, none⟩ = some v6 ∧ X.cell? ⟨g, 7, none⟩ = some v7 := by
  obtain ⟨c, c0, c1, c2, c3, c4, c5, c6, c7⟩ := hc
  exact ⟨kept_cell h c h0, kept_cell h c0 h1, kept_cell h c1 h1, kept_cell h c2 h1, kept_cell h c3 h1, kept_cell h c4 h1, kept_cell h c5 h1, kept_cell h c6 h1, kept_cell h c7 h1⟩
theorem cell_far {X : World} {b g o k : Nat} (h : g ≠ b) (v : Value) : (X.setCell ⟨b, o, none⟩ v).cell? ⟨g, k, none⟩ = X.cell? ⟨g, k, none⟩ :=
  World.cell?_setCell_other X _ _ v (fun e => h (by have := congrArg Addr.block e; first | exact this | exact this.symm))
theorem keep18 {W4 X : World} {g0 g1 p q : Nat} {t0 t1 u0 u1 u2 u3 u4 u5 u6 u7 r0 r1 r2 r3 r4 r5 r6 r7 : Value} (h : Below W4.heap.size W4 X) (hc : W4.cell? ⟨g0, 0, none⟩ = some t0 ∧ W4.cell? ⟨g1, 0, none⟩ = some t1 ∧ W4.cell? ⟨p, 0, none⟩ = some u0 ∧ W4.cell? ⟨p, 1, none⟩ = some u1 ∧ W4.cell? ⟨p, 2, none⟩ = some u2 ∧ W4.cell? ⟨p, 3, none⟩ = some u3 ∧ W4.cell? ⟨p, 4, none⟩ = some u4 ∧ W4.cell? ⟨p, 5, none⟩ = some u5 ∧ W4.cell? ⟨p, 6, none⟩ = some u6 ∧ W4.cell? ⟨p, 7, none⟩ = some u7 ∧ W4.cell? ⟨q, 0, none⟩ = some r0 ∧ W4.cell? ⟨q, 1, none⟩ = some r1 ∧ W4.cell? ⟨q, 2, none⟩ = some r2 ∧ W4.cell? ⟨q, 3, none⟩ = some r3 ∧ W4.cell? ⟨q, 4, none⟩ = some r4 ∧ W4.cell? ⟨q, 5, none⟩ = some r5 ∧ W4.cell? ⟨q, 6, none⟩ = some r6 ∧ W4.cell? ⟨q, 7, none⟩ = some r7) (h0 : g0 < W4.heap.size) (h1 : g1 < W4.heap.size) (h2 : p < W4.heap.size) (h3 : q < W4.heap.size) :
    X.cell? ⟨g0, 0, none⟩ = some t0 ∧ X.cell? ⟨g1, 0, none⟩ = some t1 ∧ X.cell? ⟨p, 0, none⟩ = some u0 ∧ X.cell? ⟨p, 1, none⟩ = some u1 ∧ X.cell? ⟨p, 2, none⟩ = some u2 ∧ X.cell? ⟨p, 3, none⟩ = some u3 ∧ X.cell? ⟨p, 4, none⟩ = some u4 ∧ X.cell? ⟨p, 5, none⟩ = some u5 ∧ X.cell? ⟨p, 6, none⟩ = some u6 ∧ X.cell? ⟨p, 7, none⟩ = some u7 ∧ X.cell? ⟨q, 0, none⟩ = some r0 ∧ X.cell? ⟨q, 1, none⟩ = some r1 ∧ X.cell? ⟨q, 2, none⟩ = some r2 ∧ X.cell? ⟨q, 3, none⟩ = some r3 ∧ X.cell? ⟨q, 4, none⟩ = some r4 ∧ X.cell? ⟨q, 5, none⟩ = some r5 ∧ X.cell? ⟨q, 6, none⟩ = some r6 ∧ X.cell? ⟨q, 7, none⟩ = some r7 := by
  obtain ⟨c0, c1, c2, c3, c4, c5, c6, c7, c8, c9, c10, c11, c12, c13, c14, c15, c16, c17⟩ := hc
  exact ⟨kept_cell h c0 h0, kept_cell h c1 h1, kept_cell h c2 h2, kept_cell h c3 h2, kept_cell h c4 h2, kept_cell h c5 h2, kept_cell h c6 h2, kept_cell h c7 h2, kept_cell h c8 h2, kept_cell h c9 h2, kept_cell h c10 h3, kept_cell h c11 h3, kept_cell h c12 h3, kept_cell h c13 h3, kept_cell h c14 h3, kept_cell h c15 h3, kept_cell h c16 h3, kept_cell h c17 h3⟩
theorem keep18s {X : World} {g0 g1 p q b o : Nat} {v t0 t1 u0 u1 u2 u3 u4 u5 u6 u7 r0 r1 r2 r3 r4 r5 r6 r7 : Value} (hc : X.cell? ⟨g0, 0, none⟩ = some t0 ∧ X.cell? ⟨g1, 0, none⟩ = some t1 ∧ X.cell? ⟨p, 0, none⟩ = some u0 ∧ X.cell? ⟨p, 1, none⟩ = some u1 ∧ X.cell? ⟨p, 2, none⟩ = some u2 ∧ X.cell? ⟨p, 3, none⟩ = some u3 ∧ X.cell? ⟨p, 4, none⟩ = some u4 ∧ X.cell? ⟨p, 5, none⟩ = some u5 ∧ X.cell? ⟨p, 6, none⟩ = some u6 ∧ X.cell? ⟨p, 7, none⟩ = some u7 ∧ X.cell? ⟨q, 0, none⟩ = some r0 ∧ X.cell? ⟨q, 1, none⟩ = some r1 ∧ X.cell? ⟨q, 2, none⟩ = some r2 ∧ X.cell? ⟨q, 3, none⟩ = some r3 ∧ X.cell? ⟨q, 4, none⟩ = some r4 ∧ X.cell? ⟨q, 5, none⟩ = some r5 ∧ X.cell? ⟨q, 6, none⟩ = some r6 ∧ X.cell? ⟨q, 7, none⟩ = some r7) (h0 : g0 ≠ b) (h1 : g1 ≠ b) (h2 : p ≠ b) (h3 : q ≠ b) :
    (X.setCell ⟨b, o, none⟩ v).cell? ⟨g0, 0, none⟩ = some t0 ∧ (X.setCell ⟨b, o, none⟩ v).cell? ⟨g1, 0, none⟩ = some t1 ∧ (X.setCell ⟨b, o, none⟩ v).cell? ⟨p, 0, none⟩ = some u0 ∧ (X.setCell ⟨b, o, none⟩ v).cell? ⟨p, 1, none⟩ = some u1 ∧ (X.setCell ⟨b, o, none⟩ v).cell? ⟨p, 2, none⟩ = some u2 ∧ (X.setCell ⟨b, o, none⟩ v).cell? ⟨p, 3, none⟩ = some u3 ∧ (X.setCell ⟨b, o, none⟩ v).cell? ⟨p, 4, none⟩ = some u4 ∧ (X.setCell ⟨b, o, none⟩ v).cell? ⟨p, 5, none⟩ = some u5 ∧ (X.setCell ⟨b, o, none⟩ v).cell? ⟨p, 6, none⟩ = some u6 ∧ (X.setCell ⟨b, o, none⟩ v).cell? ⟨p, 7, none⟩ = some u7 ∧ (X.setCell ⟨b, o, none⟩ v).cell? ⟨q, 0, none⟩ = some r0 ∧ (X.setCell ⟨b, o, none⟩ v).cell? ⟨q, 1, none⟩ = some r1 ∧ (X.setCell ⟨b, o, none⟩ v).cell? ⟨q, 2, none⟩ = some r2 ∧ (X.setCell ⟨b, o, none⟩ v).cell? ⟨q, 3, none⟩ = some r3 ∧ (X.setCell ⟨b, o, none⟩ v).cell? ⟨q, 4, none⟩ = some r4 ∧ (X.setCell ⟨b, o, none⟩ v).cell? ⟨q, 5, none⟩ = some r5 ∧ (X.setCell ⟨b, o, none⟩ v).cell? ⟨q, 6, none⟩ = some r6 ∧ (X.setCell ⟨b, o, none⟩ v).cell? ⟨q, 7, none⟩ = some r7 := by
  obtain ⟨c0, c1, c2, c3, c4, c5, c6, c7, c8, c9, c10, c11, c12, c13, c14, c15, c16, c17⟩ := hc
  exact ⟨(cell_far h0 v).trans c0, (cell_far h1 v).trans c1, (cell_far h2 v).trans c2, (cell_far h2 v).trans c3, (cell_far h2 v).trans c4, (cell_far h2 v).trans c5, (cell_far h2 v).trans c6, (cell_far h2 v).trans c7, (cell_far h2 v).trans c8, (cell_far h2 v).trans c9, (cell_far h3 v).trans c10, (cell_far h3 v).trans c11, (cell_far h3 v).trans c12, (cell_far h3 v).trans c13, (cell_far h3 v).trans c14, (cell_far h3 v).trans c15, (cell_far h3 v).trans c16, (cell_far h3 v).trans c17⟩
theorem put_int {w2 : World} {b : Nat} {x : Value} {z : Int} {ng f : Bool} {A D : Option Addr} {n c m e : Nat} (h : IntIs w2 w2.heap.size x z) (hv : Var w2 b 24 #[.bool f, .slice D m e]) :
    IntIs ((w2.setCell ⟨b, 0, none⟩ (.bool ng)).setCell ⟨b, 1, none⟩ (.slice A n c)) ((w2.setCell ⟨b, 0, none⟩ (.bool ng)).setCell ⟨b, 1, none⟩ (.slice A n c)).heap.size x z := by
  obtain ⟨A', c', he, h1, h2, h3⟩ := h
  refine ⟨A', c', he, h1, h2, fun hn => ?_⟩
  obtain ⟨b', o', rfl, hlt, hcell⟩ := h3 hn
  have hne : b' ≠ b := by
    rintro rfl
    have h0 := hcell 0 hn
    rw [hv.cell] at h0
    match o', h0 with
    | 0, h0 => simp at h0
    | 1, h0 => simp at h0
    | k + 2, h0 => simp at h0
  exact ⟨b', o', rfl, by simpa using hlt, fun k hk => (cell_far hne _).trans ((cell_far hne _).trans (hcell k hk))⟩
theorem ret2_store {w w2 : World} {b b' : Nat} {z1 z2 er : Int} {g1 g2 f f' : Bool} {A1 A2 D D' : Option Addr} {n1 c1 n2 c2 m e m' e' : Nat} (h1 : IntIs w2 w2.heap.size (.agg #[.bool g1, .slice A1 n1 c1]) z1) (h2 : IntIs w2 w2.heap.size (.agg #[.bool g2, .slice A2 n2 c2]) z2)
    (hv : Var w2 b 24 #[.bool f, .slice D m e]) (hv' : Var w2 b' 24 #[.bool f', .slice D' m' e']) (hne : b' ≠ b) (hb : Below w.heap.size w w2) (hle : w.heap.size ≤ b) (hle' : w.heap.size ≤ b') :
    Ret2 w z1 z2 er (.returned (.tuple #[.agg #[.bool g1, .slice A1 n1 c1], .agg #[.bool g2, .slice A2 n2 c2], .int .i64 er])) ((((w2.setCell ⟨b, 0, none⟩ (.bool g1)).setCell ⟨b, 1, none⟩ (.slice A1 n1 c1)).setCell ⟨b', 0, none⟩ (.bool g2)).setCell ⟨b', 1, none⟩ (.slice A2 n2 c2)) := by
  have k1 := put_int (ng := g1) (A := A1) (n := n1) (c := c1) h1 hv
  have k2 := put_int (ng := g1) (A := A1) (n := n1) (c := c1) h2 hv
  have v' : Var ((w2.setCell ⟨b, 0, none⟩ (.bool g1)).setCell ⟨b, 1, none⟩ (.slice A1 n1 c1)) b' 24 #[.bool f', .slice D' m' e'] := (hv'.far hne _).far hne _
  exact ⟨⟨_, _, rfl, put_int k1 v', put_int k2 v'⟩, (((hb.setCell hle _).setCell hle _).setCell hle' _).setCell hle' _⟩
theorem add_one_mag (u : Nat) (w : World) (hu : u < 18446744073709551616 ^ 8) :
    Calls Tryd.prog 58 #[.agg (mag (lm u)), .agg #[.int .u64 1, .int .u64 0, .int .u64 0, .int .u64 0, .int .u64 0, .int .u64 0, .int .u64 0, .int .u64 0]] w fun e w' => e = .returned (.tuple #[.agg (mag (lm (u + 1))), .bool (fits (u + 1))]) ∧ Below w.heap.size w w' := by
  have := add_mag u 1 w hu (small_lt 1 (by omega))
  rwa [one8, mag1] at this
set_option maxRecDepth 100000 in
set_option maxHeartbeats 4000000 in
theorem divMod_int (x y : Value) (a b : Int) (w : World) (hx : IntIs w w.heap.size x a) (hy : IntIs w w.heap.size y b) (ha : blen a.natAbs ≤ 64) (hb : blen b.natAbs ≤ 64) (hb0 : b ≠ 0) (hd : DivOK a.natAbs b.natAbs) :
    Calls Tryd.prog 33 #[x, y] w (Ret2 w (sgn (decide (a < 0) != decide (b < 0)) (dmU (decide (a < 0) != decide (b < 0)) a.natAbs b.natAbs)) (sgn (decide (b < 0)) (dmR (decide (a < 0) != decide (b < 0)) a.natAbs b.natAbs)) 0) := by
  obtain ⟨f, A, m, c, rfl, hx, hf, hn⟩ := hx.look
  obtain ⟨f', A', m', c', rfl, hy, hf', hn'⟩ := hy.look
  obtain ⟨v0, v1, v2, v3, hbW, hsz⟩ := boxes4 w 24 24 24 24 #[.bool f, .slice A m c] #[.bool f', .slice A' m' c'] #[.bool false, .slice none 0 0] #[.bool false, .slice none 0 0]
  have HX := Lib.hid (hx.step hbW)
  have HY := Lib.hid (hy.step hbW)
  have HA := Lib.hid ha
  have HB := Lib.hid hb
  have hm0 : 0 < m' := by rw [hn']; exact blen_pos (by omega)
  have hm1 : ((m' : Int) == 0) = false := by simp; omega
  rw [← hf, ← hf']
  generalize hzu : sgn (f != f') (dmU (f != f') a.natAbs b.natAbs) = zu
  generalize hzr : sgn f' (dmR (f != f') a.natAbs b.natAbs) = zr
  have HZZ := Lib.hid (And.intro hzu hzr)
  clear hx hy ha hb hf hf' hn hn' hzu hzr
  go_enter Tryd.func33, Tryd.ntmps33
  go_wp2_with (fail)
  generalize (((w.alloc (.cells #[.bool f, .slice A m c] 24)).alloc (.cells #[.bool f', .slice A' m' c'] 24)).alloc (.cells #[.bool false, .slice none 0 0] 24)).alloc (.cells #[.bool false, .slice none 0 0] 24) = W at *
  have hlt : w.heap.size + 3 < W.heap.size := by omega
  refine (valid_int _ a W HX.out HA.out).mono ?_
  rintro e w1 ⟨rfl, q1⟩
  have HX1 := Lib.hid (HX.out.step q1)
  have HY1 := Lib.hid (HY.out.step q1)
  have r0 := (v1.below q1 (by omega)).cell 0
  have r1 := (v1.below q1 (by omega)).cell 1
  simp only [List.getElem?_toArray, List.getElem?_cons_succ, List.getElem?_cons_zero] at r0 r1
  go_wp2_with (fail)
  clear r0 r1
  refine (valid_int _ b w1 HY1.out HB.out).mono ?_
  rintro e w2 ⟨rfl, q2⟩
  have HX2 := Lib.hid (HX1.out.step q2)
  have HY2 := Lib.hid (HY1.out.step q2)
  have q12 := q1.trans (q2.mono q1.size)
  have s1 := (v1.below q12 (by omega)).cell 1
  simp only [List.getElem?_toArray, List.getElem?_cons_succ, List.getElem?_cons_zero] at s1
  clear HX1 HY1
  go_wp2_with (fail)
  refine (magOf_int b w2 HY2.out HB.out).mono ?_
  rintro e w3 ⟨rfl, q3⟩
  have HX3 := Lib.hid (HX2.out.step q3)
  obtain ⟨z3, b3, l3⟩ := fill_new w3 (lm b.natAbs)
  have q13 := q12.trans (q3.mono q12.size)
  have q14 := q13.trans (l3.mono q13.size)
  have HX4 := Lib.hid (HX3.out.step l3)
  have t1 := (v0.below q14 (by omega)).cell 1
  simp only [List.getElem?_toArray, List.getElem?_cons_succ, List.getElem?_cons_zero] at t1
  have Z3 := Lib.hid z3
  have hs3 : W.heap.size ≤ w3.heap.size := q13.size
  clear z3 l3 q13 q12 q1 q2 q3 s1 HX3 HX2 HY2 HX HY
  go_wp2_with (first | (refine stm rfl _ _ rfl _ rfl _ _ rfl Z3.out (lm_len _) rfl ?_))
  have hp3 := b3.lt
  generalize hW4 : ((w3.alloc (.cells #[.int .u64 0, .int .u64 0, .int .u64 0, .int .u64 0, .int .u64 0, .int .u64 0, .int .u64 0, .int .u64 0] 56)).setRow w3.heap.size (mag (lm b.natAbs))) = W4 at *
  clear Z3 hW4
  generalize hg : w3.heap.size = g at *
  clear hg
  obtain ⟨b0', b1', b2', b3', b4', b5', b6', b7', he⟩ := list8 (lm_len b.natAbs)
  have HD := Lib.hid (fun w => hd.raw he w)
  obtain ⟨k0, k1, k2, k3, k4, k5, k6, k7⟩ := box8 ((congrArg (Box _ _ _) he).mp b3)
  have B3 := Lib.hid b3
  have hu8 := Lib.hid (abs_lt HA.out)
  have hv8 := Lib.hid (abs_lt HB.out)
  have hv00 := Lib.hid (show 0 < b.natAbs by omega)
  generalize hqq : a.natAbs / b.natAbs = qq at *
  generalize hrr : a.natAbs % b.natAbs = rr at *
  have HQ := Lib.hid (And.intro hqq hrr)
  have hm8 : (mag (lm qq)).size = 8 := by rw [mag_size, lm_len]
  have hm8' : (mag (lm rr)).size = 8 := by rw [mag_size, lm_len]
  have hg4 : w.heap.size < W4.heap.size := by omega
  have hg40 : w.heap.size < g := by omega
  clear b3 he hd hqq hrr hb0
  dsimp only [Act.put]
  have hS9 := And.intro t1 (And.intro k0 (And.intro k1 (And.intro k2 (And.intro k3 (And.intro k4 (And.intro k5 (And.intro k6 k7)))))))
  clear k0 k1 k2 k3 k4 k5 k6 k7 t1
  go_cut [8, 9] (fun s8 s9 wx => VarsOf W4 wx s8 s9 qq rr)
  case first =>
    go_region_held3 (fun w' => w'.cell? ⟨w.heap.size, 1, none⟩ = some (.slice A m c) ∧ w'.cell? ⟨g, 0, none⟩ = some (.int .u64 b0') ∧ w'.cell? ⟨g, 1, none⟩ = some (.int .u64 b1') ∧ w'.cell? ⟨g, 2, none⟩ = some (.int .u64 b2') ∧ w'.cell? ⟨g, 3, none⟩ = some (.int .u64 b3') ∧ w'.cell? ⟨g, 4, none⟩ = some (.int .u64 b4') ∧ w'.cell? ⟨g, 5, none⟩ = some (.int .u64 b5') ∧ w'.cell? ⟨g, 6, none⟩ = some (.int .u64 b6') ∧ w'.cell? ⟨g, 7, none⟩ = some (.int .u64 b7'))
      ((refine keep9 (W4 := W4) ?_ hS9 hg4 hp3; (repeat (first | exact hb | exact below_drew0 _ | exact Below.refl _ _ | refine bal ?_ _ | refine Below.drew ?_ | (refine below_setRow ?_ ?_; rotate_left; first | omega | (simp; omega))))))
      (first
        | (go_at_call 42; refine (magOf_int (f := f) a _ ?_ HA.out).mono ?_; (first | exact HX4.out | exact HX4.out.step (below_alloc _ _).drew | exact HX4.out.step (bal (below_alloc _ _) _).drew); rintro e w5 ⟨rfl, hq⟩; (first | have hb := bstep (below_drew0 W4) hq | have hb := bstep ((below_alloc W4 _).drew) hq | have hb := bstep ((bal (below_alloc W4 _) _).drew) hq); have hl5 := hb.size; (first | (have hzz := box_ald2 (X := W4) (Y := w5) hq; have hz1 := hzz.1; have hz2 := hzz.2; have hs1 := Nat.le_refl W4.heap.size; have hst := Nat.lt_succ_self W4.heap.size) | (have hz1 := box_ald (X := W4) (Y := w5) hq; have hs1 := Nat.le_refl W4.heap.size) | skip); clear hq)
        | (go_at_call 56; refine (HD.out _).mono ?_; rintro e w6 ⟨rfl, hq⟩; (first | have hb2 := bstep hb hq | have hb2 := bstep (bal hb _) hq | have hb2 := bstep (bal (bal hb _) _) hq); have hl6 := hb2.size; (first | have hL := laid_both (hz1.below hq hz1.lt) (hz2.below hq hz2.lt) hs1 hst hb2 | have hL := laid_both ((hz1.alloc _).below hq (hz1.alloc _).lt) (box_al (X := w5) (Y := w6) hq) hs1 hz1.lt hb2 | have hL := laid_one (hz1.below hq hz1.lt) hs1 hb2 | have hL := laid_both (box_al2 (X := w5) (Y := w6) hq).1 (box_al2 (X := w5) (Y := w6) hq).2 hb.size (Nat.lt_succ_self _) hb2 | have hL := laid_one (box_al (X := w5) (Y := w6) hq) hb.size hb2 | have hL := laid_none hb2); obtain ⟨st1, st2, st3, st4⟩ := hL.st qq rr; clear hq hb; have hb := hb2))
    all_goals
      go_wp2_with (fail)
      go_meet
      first | exact hL.one | exact hL.two
  case rest =>
    obtain ⟨p, q, rfl, rfl, hp, hq, hpq, hbp, hbq, hbc⟩ := hcut
    have hbw := q14.trans (hbc.mono q14.size)
    have hlc : w.heap.size + 3 < wc.heap.size := Nat.lt_of_lt_of_le hlt hbw.size
    have k0 := (v0.below hbw (by omega)).cell 0
    have k1 := (v1.below hbw (by omega)).cell 0
    simp only [List.getElem?_toArray, List.getElem?_cons_zero] at k0 k1
    obtain ⟨r0, r1, r2, r3, r4, r5, r6, r7, hr⟩ := list8 (lm_len rr)
    obtain ⟨c0, c1, c2, c3, c4, c5, c6, c7⟩ := box8 ((congrArg (Box _ _ _) hr).mp hbq)
    have HI := fun w => isZero_any (lm rr) w (lm_len rr)
    have hr8 : rr < 18446744073709551616 ^ 8 := by rw [← HQ.out.2]; exact Nat.lt_of_le_of_lt (Nat.mod_le _ _) hu8.out
    have hrv : rr < b.natAbs := by rw [← HQ.out.2]; exact Nat.mod_lt _ hv00.out
    have hq8 : qq < 18446744073709551616 ^ 8 := by rw [← HQ.out.1]; exact Nat.lt_of_le_of_lt (Nat.div_le_self _ _) hu8.out
    have hq81 : rr ≠ 0 → qq + 1 < 18446744073709551616 ^ 8 := fun h => by
      have h1 : 2 ≤ b.natAbs := by omega
      have h2 : qq ≤ a.natAbs / 2 := by rw [← HQ.out.1]; exact Nat.div_le_div_left h1 (by omega)
      exact half_lt hu8.out h2
    rw [lm_isZero rr hr8, hr] at HI
    have HZ := HZZ.out
    unfold dmU dmR at HZ
    rw [HQ.out.1, HQ.out.2] at HZ
    have B3c := Lib.hid (B3.out.below hbc hp3)
    have HP := Lib.hid hbp
    have HQQ := Lib.hid hbq
    have HBW := Lib.hid hbw
    have HR8 := Lib.hid hr8
    have HQ8 := Lib.hid hq8
    have HRV := Lib.hid hrv
    have HV0 := Lib.hid v0
    have HV1 := Lib.hid v1
    have HV2 := Lib.hid v2
    have HV3 := Lib.hid v3
    have HWW := Lib.hid hbW
    have hpl : p < wc.heap.size := hbp.lt
    have hql : q < wc.heap.size := hbq.lt
    have hpw : w.heap.size + 3 < p := by omega
    have hqw : w.heap.size + 3 < q := by omega
    clear hbp hbq hbw hbc hr8 hq8 hrv v0 v1 v2 v3 hbW B3 q14 HX4 HD hS9 hm8 hm8' hr hm1 hm0
    cases f <;> cases f'
    · have HZ1 : sgn false qq = zu ∧ sgn false rr = zr := HZ
      clear hq81 HI c0 c1 c2 c3 c4 c5 c6 c7
      go_wp2_with (fail)
      obtain ⟨u0, u1, u2, u3, u4, u5, u6, u7, hu⟩ := list8 (lm_len (qq))
      obtain ⟨d0, d1, d2, d3, d4, d5, d6, d7, hr'⟩ := list8 (lm_len (rr))
      obtain ⟨a0, a1, a2, a3, a4, a5, a6, a7⟩ := box8 ((congrArg (Box _ _ _) hu).mp HP.out)
      obtain ⟨e0, e1, e2, e3, e4, e5, e6, e7⟩ := box8 ((congrArg (Box _ _ _) hr').mp HQQ.out)
      have HBl := HBW
      have hlX : w.heap.size + 3 < wc.heap.size := Nat.lt_of_lt_of_le hlt HBl.out.size
      have hpX : p < wc.heap.size := Box.lt HP.out
      have hqX : q < wc.heap.size := Box.lt HQQ.out
      have k0 := (HV0.out.below HBl.out (by omega)).cell 0
      have k1 := (HV1.out.below HBl.out (by omega)).cell 0
      simp only [List.getElem?_toArray, List.getElem?_cons_zero] at k0 k1
      have hS := Lib.hid (And.intro k0 (And.intro k1 (And.intro a0 (And.intro a1 (And.intro a2 (And.intro a3 (And.intro a4 (And.intro a5 (And.intro a6 (And.intro a7 (And.intro e0 (And.intro e1 (And.intro e2 (And.intro e3 (And.intro e4 (And.intro e5 (And.intro e6 (e7))))))))))))))))))
      have hX0 : w.heap.size < wc.heap.size := by omega
      have hX1 : w.heap.size + 1 < wc.heap.size := by omega
      have hY1 : w.heap.size ≠ w.heap.size + 1 + 1 := by omega
      have hY2 : w.heap.size + 1 ≠ w.heap.size + 1 + 1 := by omega
      have hY3 : p ≠ w.heap.size + 1 + 1 := by omega
      have hY4 : q ≠ w.heap.size + 1 + 1 := by omega
      have hY5 : w.heap.size ≠ w.heap.size + 1 + 1 + 1 := by omega
      have hY6 : w.heap.size + 1 ≠ w.heap.size + 1 + 1 + 1 := by omega
      have hY7 : p ≠ w.heap.size + 1 + 1 + 1 := by omega
      have hY8 : q ≠ w.heap.size + 1 + 1 + 1 := by omega
      have HG1 := Lib.hid (fun w => signed_lm false (qq) [u0, u1, u2, u3, u4, u5, u6, u7] w HQ8.out hu.symm)
      have HG2 := Lib.hid (fun w => signed_lm false (rr) [d0, d1, d2, d3, d4, d5, d6, d7] w HR8.out hr'.symm)
      have HZ1 := Lib.hid (HZ1)
      have tok := True.intro
      clear k0 k1 a0 a1 a2 a3 a4 a5 a6 a7 e0 e1 e2 e3 e4 e5 e6 e7 hu hr' HZ
      go_region_held3 (fun w' => w'.cell? ⟨w.heap.size, 0, none⟩ = some (.bool false) ∧ w'.cell? ⟨w.heap.size + 1, 0, none⟩ = some (.bool false) ∧ w'.cell? ⟨p, 0, none⟩ = some (.int .u64 u0) ∧ w'.cell? ⟨p, 1, none⟩ = some (.int .u64 u1) ∧ w'.cell? ⟨p, 2, none⟩ = some (.int .u64 u2) ∧ w'.cell? ⟨p, 3, none⟩ = some (.int .u64 u3) ∧ w'.cell? ⟨p, 4, none⟩ = some (.int .u64 u4) ∧ w'.cell? ⟨p, 5, none⟩ = some (.int .u64 u5) ∧ w'.cell? ⟨p, 6, none⟩ = some (.int .u64 u6) ∧ w'.cell? ⟨p, 7, none⟩ = some (.int .u64 u7) ∧ w'.cell? ⟨q, 0, none⟩ = some (.int .u64 d0) ∧ w'.cell? ⟨q, 1, none⟩ = some (.int .u64 d1) ∧ w'.cell? ⟨q, 2, none⟩ = some (.int .u64 d2) ∧ w'.cell? ⟨q, 3, none⟩ = some (.int .u64 d3) ∧ w'.cell? ⟨q, 4, none⟩ = some (.int .u64 d4) ∧ w'.cell? ⟨q, 5, none⟩ = some (.int .u64 d5) ∧ w'.cell? ⟨q, 6, none⟩ = some (.int .u64 d6) ∧ w'.cell? ⟨q, 7, none⟩ = some (.int .u64 d7))
        ((first | exact keep18 (below_drew0 wc) hS.out hX0 hX1 hpX hqX | exact keep18 hb hS.out hX0 hX1 hpX hqX | exact keep18s (keep18s (keep18 hb hS.out hX0 hX1 hpX hqX) hY1 hY2 hY3 hY4) hY1 hY2 hY3 hY4 | exact keep18s (keep18s (keep18s (keep18s (keep18 hb hS.out hX0 hX1 hpX hqX) hY1 hY2 hY3 hY4) hY1 hY2 hY3 hY4) hY5 hY6 hY7 hY8) hY5 hY6 hY7 hY8))
        (first
          | (go_at_call 44; have _t := tok; refine (HG1.out _).mono ?_; rintro e w8 ⟨⟨x1, rfl, hi⟩, hq⟩; have hb := bstep (below_drew0 wc) hq; rw [HZ1.out.1] at hi; obtain ⟨f1, A1, n1, c1', rfl, hi1, -, -⟩ := hi.look; clear _t tok hq hi)
          | (go_at_call 44; refine (HG2.out _).mono ?_; rintro e w9 ⟨⟨x2, rfl, hj⟩, hq⟩; have hb2 := bstep hb hq; rw [HZ1.out.2] at hj; have hi2 := Lib.hid (hi1.step hq); obtain ⟨f2, A2, n2, c2', rfl, hj1, -, -⟩ := hj.look; have hj2 := Lib.hid hj1; have hb9 := HBl.out.trans (hb2.mono HBl.out.size); have y2 := HV2.out.below hb9 (by omega); have y3 := HV3.out.below hb9 (by omega); have s0 := y2.cell 0; have s1 := y2.cell 1; have s2 := y3.cell 0; have s3 := y3.cell 1; have z0 := y2.free 0; have z1 := y2.free 1; have z2 := y3.free 0; have z3 := y3.free 1; simp only [List.getElem?_toArray, List.getElem?_cons_succ, List.getElem?_cons_zero] at s0 s1 s2 s3; have Y2 := Lib.hid y2; have Y3 := Lib.hid y3; have HB9 := Lib.hid (HWW.out.trans (hb9.mono (by omega))); clear hb hq hi1 hj hj1 hb9 y2 y3; have hb := hb2))
      have HXX := Lib.hid (ret2_store (er := 0) hi2.out hj2.out Y2.out Y3.out (by omega) HB9.out (by omega) (by omega))
      go_wp2_with (fail)
      exact bodyPost_ret (v := .tuple #[.agg #[.bool f1, .slice A1 n1 c1'], .agg #[.bool f2, .slice A2 n2 c2'], .int .i64 0]) (by simp [results, Tryd.results33, go_sem, s0, s1, s2, s3]) rfl HXX.out
    · by_cases h0 : rr = 0
      · have HZ1 : sgn true qq = zu ∧ sgn true rr = zr := by
          have e : ((false != true) && decide (rr ≠ 0)) = false := by simp [h0]
          rw [e] at HZ
          exact HZ
        rw [decide_eq_true h0] at HI
        have HI := Lib.hid HI
        have HZ1 := Lib.hid HZ1
        have H0 := Lib.hid h0
        clear hq81 h0
        go_wp2_with (fail)
        refine (HI.out _).mono ?_
        rintro e w7 ⟨rfl, hq7⟩
        have HP7 := Lib.hid (HP.out.below hq7 hpl)
        have HQ7 := Lib.hid (HQQ.out.below hq7 hql)
        have HB7 := Lib.hid (HBW.out.trans (hq7.mono HBW.out.size))
        clear hq7 c0 c1 c2 c3 c4 c5 c6 c7
        go_wp2_with (fail)
        obtain ⟨u0, u1, u2, u3, u4, u5, u6, u7, hu⟩ := list8 (lm_len (qq))
        obtain ⟨d0, d1, d2, d3, d4, d5, d6, d7, hr'⟩ := list8 (lm_len (rr))
        obtain ⟨a0, a1, a2, a3, a4, a5, a6, a7⟩ := box8 ((congrArg (Box _ _ _) hu).mp HP7.out)
        obtain ⟨e0, e1, e2, e3, e4, e5, e6, e7⟩ := box8 ((congrArg (Box _ _ _) hr').mp HQ7.out)
        have HBl := HB7
        have hlX : w.heap.size + 3 < w7.heap.size := Nat.lt_of_lt_of_le hlt HBl.out.size
        have hpX : p < w7.heap.size := Box.lt HP7.out
        have hqX : q < w7.heap.size := Box.lt HQ7.out
        have k0 := (HV0.out.below HBl.out (by omega)).cell 0
        have k1 := (HV1.out.below HBl.out (by omega)).cell 0
        simp only [List.getElem?_toArray, List.getElem?_cons_zero] at k0 k1
        have hS := Lib.hid (And.intro k0 (And.intro k1 (And.intro a0 (And.intro a1 (And.intro a2 (And.intro a3 (And.intro a4 (And.intro a5 (And.intro a6 (And.intro a7 (And.intro e0 (And.intro e1 (And.intro e2 (And.intro e3 (And.intro e4 (And.intro e5 (And.intro e6 (e7))))))))))))))))))
        have hX0 : w.heap.size < w7.heap.size := by omega
        have hX1 : w.heap.size + 1 < w7.heap.size := by omega
        have hY1 : w.heap.size ≠ w.heap.size + 1 + 1 := by omega
        have hY2 : w.heap.size + 1 ≠ w.heap.size + 1 + 1 := by omega
        have hY3 : p ≠ w.heap.size + 1 + 1 := by omega
        have hY4 : q ≠ w.heap.size + 1 + 1 := by omega
        have hY5 : w.heap.size ≠ w.heap.size + 1 + 1 + 1 := by omega
        have hY6 : w.heap.size + 1 ≠ w.heap.size + 1 + 1 + 1 := by omega
        have hY7 : p ≠ w.heap.size + 1 + 1 + 1 := by omega
        have hY8 : q ≠ w.heap.size + 1 + 1 + 1 := by omega
        have HG1 := Lib.hid (fun w => signed_lm true (qq) [u0, u1, u2, u3, u4, u5, u6, u7] w HQ8.out hu.symm)
        have HG2 := Lib.hid (fun w => signed_lm true (rr) [d0, d1, d2, d3, d4, d5, d6, d7] w HR8.out hr'.symm)
        have HZ1 := Lib.hid (HZ1.out)
        have tok := True.intro
        clear k0 k1 a0 a1 a2 a3 a4 a5 a6 a7 e0 e1 e2 e3 e4 e5 e6 e7 hu hr' HZ
        go_region_held3 (fun w' => w'.cell? ⟨w.heap.size, 0, none⟩ = some (.bool false) ∧ w'.cell? ⟨w.heap.size + 1, 0, none⟩ = some (.bool true) ∧ w'.cell? ⟨p, 0, none⟩ = some (.int .u64 u0) ∧ w'.cell? ⟨p, 1, none⟩ = some (.int .u64 u1) ∧ w'.cell? ⟨p, 2, none⟩ = some (.int .u64 u2) ∧ w'.cell? ⟨p, 3, none⟩ = some (.int .u64 u3) ∧ w'.cell? ⟨p, 4, none⟩ = some (.int .u64 u4) ∧ w'.cell? ⟨p, 5, none⟩ = some (.int .u64 u5) ∧ w'.cell? ⟨p, 6, none⟩ = some (.int .u64 u6) ∧ w'.cell? ⟨p, 7, none⟩ = some (.int .u64 u7) ∧ w'.cell? ⟨q, 0, none⟩ = some (.int .u64 d0) ∧ w'.cell? ⟨q, 1, none⟩ = some (.int .u64 d1) ∧ w'.cell? ⟨q, 2, none⟩ = some (.int .u64 d2) ∧ w'.cell? ⟨q, 3, none⟩ = some (.int .u64 d3) ∧ w'.cell? ⟨q, 4, none⟩ = some (.int .u64 d4) ∧ w'.cell? ⟨q, 5, none⟩ = some (.int .u64 d5) ∧ w'.cell? ⟨q, 6, none⟩ = some (.int .u64 d6) ∧ w'.cell? ⟨q, 7, none⟩ = some (.int .u64 d7))
          ((first | exact keep18 (below_drew0 w7) hS.out hX0 hX1 hpX hqX | exact keep18 hb hS.out hX0 hX1 hpX hqX | exact keep18s (keep18s (keep18 hb hS.out hX0 hX1 hpX hqX) hY1 hY2 hY3 hY4) hY1 hY2 hY3 hY4 | exact keep18s (keep18s (keep18s (keep18s (keep18 hb hS.out hX0 hX1 hpX hqX) hY1 hY2 hY3 hY4) hY1 hY2 hY3 hY4) hY5 hY6 hY7 hY8) hY5 hY6 hY7 hY8))
          (first
            | (go_at_call 44; have _t := tok; refine (HG1.out _).mono ?_; rintro e w8 ⟨⟨x1, rfl, hi⟩, hq⟩; have hb := bstep (below_drew0 w7) hq; rw [HZ1.out.1] at hi; obtain ⟨f1, A1, n1, c1', rfl, hi1, -, -⟩ := hi.look; clear _t tok hq hi)
            | (go_at_call 44; refine (HG2.out _).mono ?_; rintro e w9 ⟨⟨x2, rfl, hj⟩, hq⟩; have hb2 := bstep hb hq; rw [HZ1.out.2] at hj; have hi2 := Lib.hid (hi1.step hq); obtain ⟨f2, A2, n2, c2', rfl, hj1, -, -⟩ := hj.look; have hj2 := Lib.hid hj1; have hb9 := HBl.out.trans (hb2.mono HBl.out.size); have y2 := HV2.out.below hb9 (by omega); have y3 := HV3.out.below hb9 (by omega); have s0 := y2.cell 0; have s1 := y2.cell 1; have s2 := y3.cell 0; have s3 := y3.cell 1; have z0 := y2.free 0; have z1 := y2.free 1; have z2 := y3.free 0; have z3 := y3.free 1; simp only [List.getElem?_toArray, List.getElem?_cons_succ, List.getElem?_cons_zero] at s0 s1 s2 s3; have Y2 := Lib.hid y2; have Y3 := Lib.hid y3; have HB9 := Lib.hid (HWW.out.trans (hb9.mono (by omega))); clear hb hq hi1 hj hj1 hb9 y2 y3; have hb := hb2))
        have HXX := Lib.hid (ret2_store (er := 0) hi2.out hj2.out Y2.out Y3.out (by omega) HB9.out (by omega) (by omega))
        go_wp2_with (fail)
        exact bodyPost_ret (v := .tuple #[.agg #[.bool f1, .slice A1 n1 c1'], .agg #[.bool f2, .slice A2 n2 c2'], .int .i64 0]) (by simp [results, Tryd.results33, go_sem, s0, s1, s2, s3]) rfl HXX.out
      · have HZ1 : sgn true (qq + 1) = zu ∧ sgn true (b.natAbs - rr) = zr := by
          have e : ((false != true) && decide (rr ≠ 0)) = true := by simp [h0]
          rw [e] at HZ
          exact HZ
        rw [decide_eq_false h0] at HI
        have HI := Lib.hid HI
        have HZ1 := Lib.hid HZ1
        have HQ81 := Lib.hid (hq81 h0)
        have HD8 := Lib.hid (show b.natAbs - rr < 18446744073709551616 ^ 8 from Nat.lt_of_le_of_lt (Nat.sub_le _ _) hv8.out)
        have HADD := Lib.hid (fun w => add_one_mag qq w HQ8.out)
        have HSUB := Lib.hid (fun w => sub_mag b.natAbs rr w (Nat.le_of_lt HRV.out))
        clear hq81 h0
        go_wp2_with (fail)
        refine (HI.out _).mono ?_
        rintro e w7 ⟨rfl, hq7⟩
        have HP7 := Lib.hid (HP.out.below hq7 hpl)
        have HQ7 := Lib.hid (HQQ.out.below hq7 hql)
        have HG7 := Lib.hid (B3c.out.below hq7 (by have := B3c.out.lt; omega))
        have HB7 := Lib.hid (HBW.out.trans (hq7.mono HBW.out.size))
        have hp7 : p < w7.heap.size := HP7.out.lt
        have hq77 : q < w7.heap.size := HQ7.out.lt
        have hg7 : g < w7.heap.size := HG7.out.lt
        clear hq7 c0 c1 c2 c3 c4 c5 c6 c7
        go_wp2_with (first | (refine ldm rfl _ rfl _ rfl _ HP7.out (lm_len _) ?_))
        refine (HADD.out _).mono ?_
        rintro e w10 ⟨rfl, hq10⟩
        have HP10 := Lib.hid (HP7.out.below hq10 hp7)
        have HQ10 := Lib.hid ((HQ7.out.below hq10 hq77).setRow_other (g := p) (cs := mag (lm (qq + 1))) (Ne.symm hpq))
        have HG10 := Lib.hid ((HG7.out.below hq10 hg7).setRow_other (g := p) (cs := mag (lm (qq + 1))) (by omega))
        have HB10 := Lib.hid (below_setRow (g := p) (cs := mag (lm (qq + 1))) (HB7.out.trans (hq10.mono HB7.out.size)) (by omega))
        have HP11 := Lib.hid (HP10.out.setRow (ys := lm (qq + 1)))
        clear hq10
        go_wp2_with (first | (refine stm rfl _ _ rfl _ rfl _ _ rfl HP10.out (lm_len _) rfl ?_) | (refine ldm rfl _ rfl _ rfl _ HG10.out (lm_len _) ?_) | (refine ldm rfl _ rfl _ rfl _ HQ10.out (lm_len _) ?_))
        generalize w10.setRow p (mag (lm (qq + 1))) = w11 at *
        have hp11 : p < w11.heap.size := HP11.out.lt
        have hq11' : q < w11.heap.size := HQ10.out.lt
        refine (HSUB.out _).mono ?_
        rintro e w12 ⟨rfl, hq12⟩
        have HQ12 := Lib.hid (HQ10.out.below hq12 hq11')
        have HP13 := Lib.hid ((HP11.out.below hq12 hp11).setRow_other (g := q) (cs := mag (lm (b.natAbs - rr))) hpq)
        have HQ13 := Lib.hid (HQ12.out.setRow (ys := lm (b.natAbs - rr)))
        have HB13 := Lib.hid (below_setRow (g := q) (cs := mag (lm (b.natAbs - rr))) (HB10.out.trans (hq12.mono HB10.out.size)) (by omega))
        clear hq12
        go_wp2_with (first | (refine stm rfl _ _ rfl _ rfl _ _ rfl HQ12.out (lm_len _) rfl ?_))
        generalize w12.setRow q (mag (lm (b.natAbs - rr))) = w13 at *
        dsimp only [Act.put]
        obtain ⟨u0, u1, u2, u3, u4, u5, u6, u7, hu⟩ := list8 (lm_len (qq + 1))
        obtain ⟨d0, d1, d2, d3, d4, d5, d6, d7, hr'⟩ := list8 (lm_len (b.natAbs - rr))
        obtain ⟨a0, a1, a2, a3, a4, a5, a6, a7⟩ := box8 ((congrArg (Box _ _ _) hu).mp HP13.out)
        obtain ⟨e0, e1, e2, e3, e4, e5, e6, e7⟩ := box8 ((congrArg (Box _ _ _) hr').mp HQ13.out)
        have HBl := HB13
        have hlX : w.heap.size + 3 < w13.heap.size := Nat.lt_of_lt_of_le hlt HBl.out.size
        have hpX : p < w13.heap.size := Box.lt HP13.out
        have hqX : q < w13.heap.size := Box.lt HQ13.out
        have k0 := (HV0.out.below HBl.out (by omega)).cell 0
        have k1 := (HV1.out.below HBl.out (by omega)).cell 0
        simp only [List.getElem?_toArray, List.getElem?_cons_zero] at k0 k1
        have hS := Lib.hid (And.intro k0 (And.intro k1 (And.intro a0 (And.intro a1 (And.intro a2 (And.intro a3 (And.intro a4 (And.intro a5 (And.intro a6 (And.intro a7 (And.intro e0 (And.intro e1 (And.intro e2 (And.intro e3 (And.intro e4 (And.intro e5 (And.intro e6 (e7))))))))))))))))))
        have hX0 : w.heap.size < w13.heap.size := by omega
        have hX1 : w.heap.size + 1 < w13.heap.size := by omega
        have hY1 : w.heap.size ≠ w.heap.size + 1 + 1 := by omega
        have hY2 : w.heap.size + 1 ≠ w.heap.size + 1 + 1 := by omega
        have hY3 : p ≠ w.heap.size + 1 + 1 := by omega
        have hY4 : q ≠ w.heap.size + 1 + 1 := by omega
        have hY5 : w.heap.size ≠ w.heap.size + 1 + 1 + 1 := by omega
        have hY6 : w.heap.size + 1 ≠ w.heap.size + 1 + 1 + 1 := by omega
        have hY7 : p ≠ w.heap.size + 1 + 1 + 1 := by omega
        have hY8 : q ≠ w.heap.size + 1 + 1 + 1 := by omega
        have HG1 := Lib.hid (fun w => signed_lm true (qq + 1) [u0, u1, u2, u3, u4, u5, u6, u7] w HQ81.out hu.symm)
        have HG2 := Lib.hid (fun w => signed_lm true (b.natAbs - rr) [d0, d1, d2, d3, d4, d5, d6, d7] w HD8.out hr'.symm)
        have HZ1 := Lib.hid (HZ1.out)
        have tok := True.intro
        clear k0 k1 a0 a1 a2 a3 a4 a5 a6 a7 e0 e1 e2 e3 e4 e5 e6 e7 hu hr' HZ
        go_region_held3 (fun w' => w'.cell? ⟨w.heap.size, 0, none⟩ = some (.bool false) ∧ w'.cell? ⟨w.heap.size + 1, 0, none⟩ = some (.bool true) ∧ w'.cell? ⟨p, 0, none⟩ = some (.int .u64 u0) ∧ w'.cell? ⟨p, 1, none⟩ = some (.int .u64 u1) ∧ w'.cell? ⟨p, 2, none⟩ = some (.int .u64 u2) ∧ w'.cell? ⟨p, 3, none⟩ = some (.int .u64 u3) ∧ w'.cell? ⟨p, 4, none⟩ = some (.int .u64 u4) ∧ w'.cell? ⟨p, 5, none⟩ = some (.int .u64 u5) ∧ w'.cell? ⟨p, 6, none⟩ = some (.int .u64 u6) ∧ w'.cell? ⟨p, 7, none⟩ = some (.int .u64 u7) ∧ w'.cell? ⟨q, 0, none⟩ = some (.int .u64 d0) ∧ w'.cell? ⟨q, 1, none⟩ = some (.int .u64 d1) ∧ w'.cell? ⟨q, 2, none⟩ = some (.int .u64 d2) ∧ w'.cell? ⟨q, 3, none⟩ = some (.int .u64 d3) ∧ w'.cell? ⟨q, 4, none⟩ = some (.int .u64 d4) ∧ w'.cell? ⟨q, 5, none⟩ = some (.int .u64 d5) ∧ w'.cell? ⟨q, 6, none⟩ = some (.int .u64 d6) ∧ w'.cell? ⟨q, 7, none⟩ = some (.int .u64 d7))
          ((first | exact keep18 (below_drew0 w13) hS.out hX0 hX1 hpX hqX | exact keep18 hb hS.out hX0 hX1 hpX hqX | exact keep18s (keep18s (keep18 hb hS.out hX0 hX1 hpX hqX) hY1 hY2 hY3 hY4) hY1 hY2 hY3 hY4 | exact keep18s (keep18s (keep18s (keep18s (keep18 hb hS.out hX0 hX1 hpX hqX) hY1 hY2 hY3 hY4) hY1 hY2 hY3 hY4) hY5 hY6 hY7 hY8) hY5 hY6 hY7 hY8))
          (first
            | (go_at_call 44; have _t := tok; refine (HG1.out _).mono ?_; rintro e w8 ⟨⟨x1, rfl, hi⟩, hq⟩; have hb := bstep (below_drew0 w13) hq; rw [HZ1.out.1] at hi; obtain ⟨f1, A1, n1, c1', rfl, hi1, -, -⟩ := hi.look; clear _t tok hq hi)
            | (go_at_call 44; refine (HG2.out _).mono ?_; rintro e w9 ⟨⟨x2, rfl, hj⟩, hq⟩; have hb2 := bstep hb hq; rw [HZ1.out.2] at hj; have hi2 := Lib.hid (hi1.step hq); obtain ⟨f2, A2, n2, c2', rfl, hj1, -, -⟩ := hj.look; have hj2 := Lib.hid hj1; have hb9 := HBl.out.trans (hb2.mono HBl.out.size); have y2 := HV2.out.below hb9 (by omega); have y3 := HV3.out.below hb9 (by omega); have s0 := y2.cell 0; have s1 := y2.cell 1; have s2 := y3.cell 0; have s3 := y3.cell 1; have z0 := y2.free 0; have z1 := y2.free 1; have z2 := y3.free 0; have z3 := y3.free 1; simp only [List.getElem?_toArray, List.getElem?_cons_succ, List.getElem?_cons_zero] at s0 s1 s2 s3; have Y2 := Lib.hid y2; have Y3 := Lib.hid y3; have HB9 := Lib.hid (HWW.out.trans (hb9.mono (by omega))); clear hb hq hi1 hj hj1 hb9 y2 y3; have hb := hb2))
        have HXX := Lib.hid (ret2_store (er := 0) hi2.out hj2.out Y2.out Y3.out (by omega) HB9.out (by omega) (by omega))
        go_wp2_with (fail)
        exact bodyPost_ret (v := .tuple #[.agg #[.bool f1, .slice A1 n1 c1'], .agg #[.bool f2, .slice A2 n2 c2'], .int .i64 0]) (by simp [results, Tryd.results33, go_sem, s0, s1, s2, s3]) rfl HXX.out
    · by_cases h0 : rr = 0
      · have HZ1 : sgn true qq = zu ∧ sgn false rr = zr := by
          have e : ((true != false) && decide (rr ≠ 0)) = false := by simp [h0]
          rw [e] at HZ
          exact HZ
        rw [decide_eq_true h0] at HI
        have HI := Lib.hid HI
        have HZ1 := Lib.hid HZ1
        have H0 := Lib.hid h0
        clear hq81 h0
        go_wp2_with (fail)
        refine (HI.out _).mono ?_
        rintro e w7 ⟨rfl, hq7⟩
        have HP7 := Lib.hid (HP.out.below hq7 hpl)
        have HQ7 := Lib.hid (HQQ.out.below hq7 hql)
        have HB7 := Lib.hid (HBW.out.trans (hq7.mono HBW.out.size))
        clear hq7 c0 c1 c2 c3 c4 c5 c6 c7
        go_wp2_with (fail)
        obtain ⟨u0, u1, u2, u3, u4, u5, u6, u7, hu⟩ := list8 (lm_len (qq))
        obtain ⟨d0, d1, d2, d3, d4, d5, d6, d7, hr'⟩ := list8 (lm_len (rr))
        obtain ⟨a0, a1, a2, a3, a4, a5, a6, a7⟩ := box8 ((congrArg (Box _ _ _) hu).mp HP7.out)
        obtain ⟨e0, e1, e2, e3, e4, e5, e6, e7⟩ := box8 ((congrArg (Box _ _ _) hr').mp HQ7.out)
        have HBl := HB7
        have hlX : w.heap.size + 3 < w7.heap.size := Nat.lt_of_lt_of_le hlt HBl.out.size
        have hpX : p < w7.heap.size := Box.lt HP7.out
        have hqX : q < w7.heap.size := Box.lt HQ7.out
        have k0 := (HV0.out.below HBl.out (by omega)).cell 0
        have k1 := (HV1.out.below HBl.out (by omega)).cell 0
        simp only [List.getElem?_toArray, List.getElem?_cons_zero] at k0 k1
        have hS := Lib.hid (And.intro k0 (And.intro k1 (And.intro a0 (And.intro a1 (And.intro a2 (And.intro a3 (And.intro a4 (And.intro a5 (And.intro a6 (And.intro a7 (And.intro e0 (And.intro e1 (And.intro e2 (And.intro e3 (And.intro e4 (And.intro e5 (And.intro e6 (e7))))))))))))))))))
        have hX0 : w.heap.size < w7.heap.size := by omega
        have hX1 : w.heap.size + 1 < w7.heap.size := by omega
        have hY1 : w.heap.size ≠ w.heap.size + 1 + 1 := by omega
        have hY2 : w.heap.size + 1 ≠ w.heap.size + 1 + 1 := by omega
        have hY3 : p ≠ w.heap.size + 1 + 1 := by omega
        have hY4 : q ≠ w.heap.size + 1 + 1 := by omega
        have hY5 : w.heap.size ≠ w.heap.size + 1 + 1 + 1 := by omega
        have hY6 : w.heap.size + 1 ≠ w.heap.size + 1 + 1 + 1 := by omega
        have hY7 : p ≠ w.heap.size + 1 + 1 + 1 := by omega
        have hY8 : q ≠ w.heap.size + 1 + 1 + 1 := by omega
        have HG1 := Lib.hid (fun w => signed_lm true (qq) [u0, u1, u2, u3, u4, u5, u6, u7] w HQ8.out hu.symm)
        have HG2 := Lib.hid (fun w => signed_lm false (rr) [d0, d1, d2, d3, d4, d5, d6, d7] w HR8.out hr'.symm)
        have HZ1 := Lib.hid (HZ1.out)
        have tok := True.intro
        clear k0 k1 a0 a1 a2 a3 a4 a5 a6 a7 e0 e1 e2 e3 e4 e5 e6 e7 hu hr' HZ
        go_region_held3 (fun w' => w'.cell? ⟨w.heap.size, 0, none⟩ = some (.bool true) ∧ w'.cell? ⟨w.heap.size + 1, 0, none⟩ = some (.bool false) ∧ w'.cell? ⟨p, 0, none⟩ = some (.int .u64 u0) ∧ w'.cell? ⟨p, 1, none⟩ = some (.int .u64 u1) ∧ w'.cell? ⟨p, 2, none⟩ = some (.int .u64 u2) ∧ w'.cell? ⟨p, 3, none⟩ = some (.int .u64 u3) ∧ w'.cell? ⟨p, 4, none⟩ = some (.int .u64 u4) ∧ w'.cell? ⟨p, 5, none⟩ = some (.int .u64 u5) ∧ w'.cell? ⟨p, 6, none⟩ = some (.int .u64 u6) ∧ w'.cell? ⟨p, 7, none⟩ = some (.int .u64 u7) ∧ w'.cell? ⟨q, 0, none⟩ = some (.int .u64 d0) ∧ w'.cell? ⟨q, 1, none⟩ = some (.int .u64 d1) ∧ w'.cell? ⟨q, 2, none⟩ = some (.int .u64 d2) ∧ w'.cell? ⟨q, 3, none⟩ = some (.int .u64 d3) ∧ w'.cell? ⟨q, 4, none⟩ = some (.int .u64 d4) ∧ w'.cell? ⟨q, 5, none⟩ = some (.int .u64 d5) ∧ w'.cell? ⟨q, 6, none⟩ = some (.int .u64 d6) ∧ w'.cell? ⟨q, 7, none⟩ = some (.int .u64 d7))
          ((first | exact keep18 (below_drew0 w7) hS.out hX0 hX1 hpX hqX | exact keep18 hb hS.out hX0 hX1 hpX hqX | exact keep18s (keep18s (keep18 hb hS.out hX0 hX1 hpX hqX) hY1 hY2 hY3 hY4) hY1 hY2 hY3 hY4 | exact keep18s (keep18s (keep18s (keep18s (keep18 hb hS.out hX0 hX1 hpX hqX) hY1 hY2 hY3 hY4) hY1 hY2 hY3 hY4) hY5 hY6 hY7 hY8) hY5 hY6 hY7 hY8))
          (first
            | (go_at_call 44; have _t := tok; refine (HG1.out _).mono ?_; rintro e w8 ⟨⟨x1, rfl, hi⟩, hq⟩; have hb := bstep (below_drew0 w7) hq; rw [HZ1.out.1] at hi; obtain ⟨f1, A1, n1, c1', rfl, hi1, -, -⟩ := hi.look; clear _t tok hq hi)
            | (go_at_call 44; refine (HG2.out _).mono ?_; rintro e w9 ⟨⟨x2, rfl, hj⟩, hq⟩; have hb2 := bstep hb hq; rw [HZ1.out.2] at hj; have hi2 := Lib.hid (hi1.step hq); obtain ⟨f2, A2, n2, c2', rfl, hj1, -, -⟩ := hj.look; have hj2 := Lib.hid hj1; have hb9 := HBl.out.trans (hb2.mono HBl.out.size); have y2 := HV2.out.below hb9 (by omega); have y3 := HV3.out.below hb9 (by omega); have s0 := y2.cell 0; have s1 := y2.cell 1; have s2 := y3.cell 0; have s3 := y3.cell 1; have z0 := y2.free 0; have z1 := y2.free 1; have z2 := y3.free 0; have z3 := y3.free 1; simp only [List.getElem?_toArray, List.getElem?_cons_succ, List.getElem?_cons_zero] at s0 s1 s2 s3; have Y2 := Lib.hid y2; have Y3 := Lib.hid y3; have HB9 := Lib.hid (HWW.out.trans (hb9.mono (by omega))); clear hb hq hi1 hj hj1 hb9 y2 y3; have hb := hb2))
        have HXX := Lib.hid (ret2_store (er := 0) hi2.out hj2.out Y2.out Y3.out (by omega) HB9.out (by omega) (by omega))
        go_wp2_with (fail)
        exact bodyPost_ret (v := .tuple #[.agg #[.bool f1, .slice A1 n1 c1'], .agg #[.bool f2, .slice A2 n2 c2'], .int .i64 0]) (by simp [results, Tryd.results33, go_sem, s0, s1, s2, s3]) rfl HXX.out
      · have HZ1 : sgn true (qq + 1) = zu ∧ sgn false (b.natAbs - rr) = zr := by
          have e : ((true != false) && decide (rr ≠ 0)) = true := by simp [h0]
          rw [e] at HZ
          exact HZ
        rw [decide_eq_false h0] at HI
        have HI := Lib.hid HI
        have HZ1 := Lib.hid HZ1
        have HQ81 := Lib.hid (hq81 h0)
        have HD8 := Lib.hid (show b.natAbs - rr < 18446744073709551616 ^ 8 from Nat.lt_of_le_of_lt (Nat.sub_le _ _) hv8.out)
        have HADD := Lib.hid (fun w => add_one_mag qq w HQ8.out)
        have HSUB := Lib.hid (fun w => sub_mag b.natAbs rr w (Nat.le_of_lt HRV.out))
        clear hq81 h0
        go_wp2_with (fail)
        refine (HI.out _).mono ?_
        rintro e w7 ⟨rfl, hq7⟩
        have HP7 := Lib.hid (HP.out.below hq7 hpl)
        have HQ7 := Lib.hid (HQQ.out.below hq7 hql)
        have HG7 := Lib.hid (B3c.out.below hq7 (by have := B3c.out.lt; omega))
        have HB7 := Lib.hid (HBW.out.trans (hq7.mono HBW.out.size))
        have hp7 : p < w7.heap.size := HP7.out.lt
        have hq77 : q < w7.heap.size := HQ7.out.lt
        have hg7 : g < w7.heap.size := HG7.out.lt
        clear hq7 c0 c1 c2 c3 c4 c5 c6 c7
        go_wp2_with (first | (refine ldm rfl _ rfl _ rfl _ HP7.out (lm_len _) ?_))
        refine (HADD.out _).mono ?_
        rintro e w10 ⟨rfl, hq10⟩
        have HP10 := Lib.hid (HP7.out.below hq10 hp7)
        have HQ10 := Lib.hid ((HQ7.out.below hq10 hq77).setRow_other (g := p) (cs := mag (lm (qq + 1))) (Ne.symm hpq))
        have HG10 := Lib.hid ((HG7.out.below hq10 hg7).setRow_other (g := p) (cs := mag (lm (qq + 1))) (by omega))
        have HB10 := Lib.hid (below_setRow (g := p) (cs := mag (lm (qq + 1))) (HB7.out.trans (hq10.mono HB7.out.size)) (by omega))
        have HP11 := Lib.hid (HP10.out.setRow (ys := lm (qq + 1)))
        clear hq10
        go_wp2_with (first | (refine stm rfl _ _ rfl _ rfl _ _ rfl HP10.out (lm_len _) rfl ?_) | (refine ldm rfl _ rfl _ rfl _ HG10.out (lm_len _) ?_) | (refine ldm rfl _ rfl _ rfl _ HQ10.out (lm_len _) ?_))
        generalize w10.setRow p (mag (lm (qq + 1))) = w11 at *
        have hp11 : p < w11.heap.size := HP11.out.lt
        have hq11' : q < w11.heap.size := HQ10.out.lt
        refine (HSUB.out _).mono ?_
        rintro e w12 ⟨rfl, hq12⟩
        have HQ12 := Lib.hid (HQ10.out.below hq12 hq11')
        have HP13 := Lib.hid ((HP11.out.below hq12 hp11).setRow_other (g := q) (cs := mag (lm (b.natAbs - rr))) hpq)
        have HQ13 := Lib.hid (HQ12.out.setRow (ys := lm (b.natAbs - rr)))
        have HB13 := Lib.hid (below_setRow (g := q) (cs := mag (lm (b.natAbs - rr))) (HB10.out.trans (hq12.mono HB10.out.size)) (by omega))
        clear hq12
        go_wp2_with (first | (refine stm rfl _ _ rfl _ rfl _ _ rfl HQ12.out (lm_len _) rfl ?_))
        generalize w12.setRow q (mag (lm (b.natAbs - rr))) = w13 at *
        dsimp only [Act.put]
        obtain ⟨u0, u1, u2, u3, u4, u5, u6, u7, hu⟩ := list8 (lm_len (qq + 1))
        obtain ⟨d0, d1, d2, d3, d4, d5, d6, d7, hr'⟩ := list8 (lm_len (b.natAbs - rr))
        obtain ⟨a0, a1, a2, a3, a4, a5, a6, a7⟩ := box8 ((congrArg (Box _ _ _) hu).mp HP13.out)
        obtain ⟨e0, e1, e2, e3, e4, e5, e6, e7⟩ := box8 ((congrArg (Box _ _ _) hr').mp HQ13.out)
        have HBl := HB13
        have hlX : w.heap.size + 3 < w13.heap.size := Nat.lt_of_lt_of_le hlt HBl.out.size
        have hpX : p < w13.heap.size := Box.lt HP13.out
        have hqX : q < w13.heap.size := Box.lt HQ13.out
        have k0 := (HV0.out.below HBl.out (by omega)).cell 0
        have k1 := (HV1.out.below HBl.out (by omega)).cell 0
        simp only [List.getElem?_toArray, List.getElem?_cons_zero] at k0 k1
        have hS := Lib.hid (And.intro k0 (And.intro k1 (And.intro a0 (And.intro a1 (And.intro a2 (And.intro a3 (And.intro a4 (And.intro a5 (And.intro a6 (And.intro a7 (And.intro e0 (And.intro e1 (And.intro e2 (And.intro e3 (And.intro e4 (And.intro e5 (And.intro e6 (e7))))))))))))))))))
        have hX0 : w.heap.size < w13.heap.size := by omega
        have hX1 : w.heap.size + 1 < w13.heap.size := by omega
        have hY1 : w.heap.size ≠ w.heap.size + 1 + 1 := by omega
        have hY2 : w.heap.size + 1 ≠ w.heap.size + 1 + 1 := by omega
        have hY3 : p ≠ w.heap.size + 1 + 1 := by omega
        have hY4 : q ≠ w.heap.size + 1 + 1 := by omega
        have hY5 : w.heap.size ≠ w.heap.size + 1 + 1 + 1 := by omega
        have hY6 : w.heap.size + 1 ≠ w.heap.size + 1 + 1 + 1 := by omega
        have hY7 : p ≠ w.heap.size + 1 + 1 + 1 := by omega
        have hY8 : q ≠ w.heap.size + 1 + 1 + 1 := by omega
        have HG1 := Lib.hid (fun w => signed_lm true (qq + 1) [u0, u1, u2, u3, u4, u5, u6, u7] w HQ81.out hu.symm)
        have HG2 := Lib.hid (fun w => signed_lm false (b.natAbs - rr) [d0, d1, d2, d3, d4, d5, d6, d7] w HD8.out hr'.symm)
        have HZ1 := Lib.hid (HZ1.out)
        have tok := True.intro
        clear k0 k1 a0 a1 a2 a3 a4 a5 a6 a7 e0 e1 e2 e3 e4 e5 e6 e7 hu hr' HZ
        go_region_held3 (fun w' => w'.cell? ⟨w.heap.size, 0, none⟩ = some (.bool true) ∧ w'.cell? ⟨w.heap.size + 1, 0, none⟩ = some (.bool false) ∧ w'.cell? ⟨p, 0, none⟩ = some (.int .u64 u0) ∧ w'.cell? ⟨p, 1, none⟩ = some (.int .u64 u1) ∧ w'.cell? ⟨p, 2, none⟩ = some (.int .u64 u2) ∧ w'.cell? ⟨p, 3, none⟩ = some (.int .u64 u3) ∧ w'.cell? ⟨p, 4, none⟩ = some (.int .u64 u4) ∧ w'.cell? ⟨p, 5, none⟩ = some (.int .u64 u5) ∧ w'.cell? ⟨p, 6, none⟩ = some (.int .u64 u6) ∧ w'.cell? ⟨p, 7, none⟩ = some (.int .u64 u7) ∧ w'.cell? ⟨q, 0, none⟩ = some (.int .u64 d0) ∧ w'.cell? ⟨q, 1, none⟩ = some (.int .u64 d1) ∧ w'.cell? ⟨q, 2, none⟩ = some (.int .u64 d2) ∧ w'.cell? ⟨q, 3, none⟩ = some (.int .u64 d3) ∧ w'.cell? ⟨q, 4, none⟩ = some (.int .u64 d4) ∧ w'.cell? ⟨q, 5, none⟩ = some (.int .u64 d5) ∧ w'.cell? ⟨q, 6, none⟩ = some (.int .u64 d6) ∧ w'.cell? ⟨q, 7, none⟩ = some (.int .u64 d7))
          ((first | exact keep18 (below_drew0 w13) hS.out hX0 hX1 hpX hqX | exact keep18 hb hS.out hX0 hX1 hpX hqX | exact keep18s (keep18s (keep18 hb hS.out hX0 hX1 hpX hqX) hY1 hY2 hY3 hY4) hY1 hY2 hY3 hY4 | exact keep18s (keep18s (keep18s (keep18s (keep18 hb hS.out hX0 hX1 hpX hqX) hY1 hY2 hY3 hY4) hY1 hY2 hY3 hY4) hY5 hY6 hY7 hY8) hY5 hY6 hY7 hY8))
          (first
            | (go_at_call 44; have _t := tok; refine (HG1.out _).mono ?_; rintro e w8 ⟨⟨x1, rfl, hi⟩, hq⟩; have hb := bstep (below_drew0 w13) hq; rw [HZ1.out.1] at hi; obtain ⟨f1, A1, n1, c1', rfl, hi1, -, -⟩ := hi.look; clear _t tok hq hi)
            | (go_at_call 44; refine (HG2.out _).mono ?_; rintro e w9 ⟨⟨x2, rfl, hj⟩, hq⟩; have hb2 := bstep hb hq; rw [HZ1.out.2] at hj; have hi2 := Lib.hid (hi1.step hq); obtain ⟨f2, A2, n2, c2', rfl, hj1, -, -⟩ := hj.look; have hj2 := Lib.hid hj1; have hb9 := HBl.out.trans (hb2.mono HBl.out.size); have y2 := HV2.out.below hb9 (by omega); have y3 := HV3.out.below hb9 (by omega); have s0 := y2.cell 0; have s1 := y2.cell 1; have s2 := y3.cell 0; have s3 := y3.cell 1; have z0 := y2.free 0; have z1 := y2.free 1; have z2 := y3.free 0; have z3 := y3.free 1; simp only [List.getElem?_toArray, List.getElem?_cons_succ, List.getElem?_cons_zero] at s0 s1 s2 s3; have Y2 := Lib.hid y2; have Y3 := Lib.hid y3; have HB9 := Lib.hid (HWW.out.trans (hb9.mono (by omega))); clear hb hq hi1 hj hj1 hb9 y2 y3; have hb := hb2))
        have HXX := Lib.hid (ret2_store (er := 0) hi2.out hj2.out Y2.out Y3.out (by omega) HB9.out (by omega) (by omega))
        go_wp2_with (fail)
        exact bodyPost_ret (v := .tuple #[.agg #[.bool f1, .slice A1 n1 c1'], .agg #[.bool f2, .slice A2 n2 c2'], .int .i64 0]) (by simp [results, Tryd.results33, go_sem, s0, s1, s2, s3]) rfl HXX.out
    · have HZ1 : sgn false qq = zu ∧ sgn true rr = zr := HZ
      clear hq81 HI c0 c1 c2 c3 c4 c5 c6 c7
      go_wp2_with (fail)
      obtain ⟨u0, u1, u2, u3, u4, u5, u6, u7, hu⟩ := list8 (lm_len (qq))
      obtain ⟨d0, d1, d2, d3, d4, d5, d6, d7, hr'⟩ := list8 (lm_len (rr))
      obtain ⟨a0, a1, a2, a3, a4, a5, a6, a7⟩ := box8 ((congrArg (Box _ _ _) hu).mp HP.out)
      obtain ⟨e0, e1, e2, e3, e4, e5, e6, e7⟩ := box8 ((congrArg (Box _ _ _) hr').mp HQQ.out)
      have HBl := HBW
      have hlX : w.heap.size + 3 < wc.heap.size := Nat.lt_of_lt_of_le hlt HBl.out.size
      have hpX : p < wc.heap.size := Box.lt HP.out
      have hqX : q < wc.heap.size := Box.lt HQQ.out
      have k0 := (HV0.out.below HBl.out (by omega)).cell 0
      have k1 := (HV1.out.below HBl.out (by omega)).cell 0
      simp only [List.getElem?_toArray, List.getElem?_cons_zero] at k0 k1
      have hS := Lib.hid (And.intro k0 (And.intro k1 (And.intro a0 (And.intro a1 (And.intro a2 (And.intro a3 (And.intro a4 (And.intro a5 (And.intro a6 (And.intro a7 (And.intro e0 (And.intro e1 (And.intro e2 (And.intro e3 (And.intro e4 (And.intro e5 (And.intro e6 (e7))))))))))))))))))
      have hX0 : w.heap.size < wc.heap.size := by omega
      have hX1 : w.heap.size + 1 < wc.heap.size := by omega
      have hY1 : w.heap.size ≠ w.heap.size + 1 + 1 := by omega
      have hY2 : w.heap.size + 1 ≠ w.heap.size + 1 + 1 := by omega
      have hY3 : p ≠ w.heap.size + 1 + 1 := by omega
      have hY4 : q ≠ w.heap.size + 1 + 1 := by omega
      have hY5 : w.heap.size ≠ w.heap.size + 1 + 1 + 1 := by omega
      have hY6 : w.heap.size + 1 ≠ w.heap.size + 1 + 1 + 1 := by omega
      have hY7 : p ≠ w.heap.size + 1 + 1 + 1 := by omega
      have hY8 : q ≠ w.heap.size + 1 + 1 + 1 := by omega
      have HG1 := Lib.hid (fun w => signed_lm false (qq) [u0, u1, u2, u3, u4, u5, u6, u7] w HQ8.out hu.symm)
      have HG2 := Lib.hid (fun w => signed_lm true (rr) [d0, d1, d2, d3, d4, d5, d6, d7] w HR8.out hr'.symm)
      have HZ1 := Lib.hid (HZ1)
      have tok := True.intro
      clear k0 k1 a0 a1 a2 a3 a4 a5 a6 a7 e0 e1 e2 e3 e4 e5 e6 e7 hu hr' HZ
      go_region_held3 (fun w' => w'.cell? ⟨w.heap.size, 0, none⟩ = some (.bool true) ∧ w'.cell? ⟨w.heap.size + 1, 0, none⟩ = some (.bool true) ∧ w'.cell? ⟨p, 0, none⟩ = some (.int .u64 u0) ∧ w'.cell? ⟨p, 1, none⟩ = some (.int .u64 u1) ∧ w'.cell? ⟨p, 2, none⟩ = some (.int .u64 u2) ∧ w'.cell? ⟨p, 3, none⟩ = some (.int .u64 u3) ∧ w'.cell? ⟨p, 4, none⟩ = some (.int .u64 u4) ∧ w'.cell? ⟨p, 5, none⟩ = some (.int .u64 u5) ∧ w'.cell? ⟨p, 6, none⟩ = some (.int .u64 u6) ∧ w'.cell? ⟨p, 7, none⟩ = some (.int .u64 u7) ∧ w'.cell? ⟨q, 0, none⟩ = some (.int .u64 d0) ∧ w'.cell? ⟨q, 1, none⟩ = some (.int .u64 d1) ∧ w'.cell? ⟨q, 2, none⟩ = some (.int .u64 d2) ∧ w'.cell? ⟨q, 3, none⟩ = some (.int .u64 d3) ∧ w'.cell? ⟨q, 4, none⟩ = some (.int .u64 d4) ∧ w'.cell? ⟨q, 5, none⟩ = some (.int .u64 d5) ∧ w'.cell? ⟨q, 6, none⟩ = some (.int .u64 d6) ∧ w'.cell? ⟨q, 7, none⟩ = some (.int .u64 d7))
        ((first | exact keep18 (below_drew0 wc) hS.out hX0 hX1 hpX hqX | exact keep18 hb hS.out hX0 hX1 hpX hqX | exact keep18s (keep18s (keep18 hb hS.out hX0 hX1 hpX hqX) hY1 hY2 hY3 hY4) hY1 hY2 hY3 hY4 | exact keep18s (keep18s (keep18s (keep18s (keep18 hb hS.out hX0 hX1 hpX hqX) hY1 hY2 hY3 hY4) hY1 hY2 hY3 hY4) hY5 hY6 hY7 hY8) hY5 hY6 hY7 hY8))
        (first
          | (go_at_call 44; have _t := tok; refine (HG1.out _).mono ?_; rintro e w8 ⟨⟨x1, rfl, hi⟩, hq⟩; have hb := bstep (below_drew0 wc) hq; rw [HZ1.out.1] at hi; obtain ⟨f1, A1, n1, c1', rfl, hi1, -, -⟩ := hi.look; clear _t tok hq hi)
          | (go_at_call 44; refine (HG2.out _).mono ?_; rintro e w9 ⟨⟨x2, rfl, hj⟩, hq⟩; have hb2 := bstep hb hq; rw [HZ1.out.2] at hj; have hi2 := Lib.hid (hi1.step hq); obtain ⟨f2, A2, n2, c2', rfl, hj1, -, -⟩ := hj.look; have hj2 := Lib.hid hj1; have hb9 := HBl.out.trans (hb2.mono HBl.out.size); have y2 := HV2.out.below hb9 (by omega); have y3 := HV3.out.below hb9 (by omega); have s0 := y2.cell 0; have s1 := y2.cell 1; have s2 := y3.cell 0; have s3 := y3.cell 1; have z0 := y2.free 0; have z1 := y2.free 1; have z2 := y3.free 0; have z3 := y3.free 1; simp only [List.getElem?_toArray, List.getElem?_cons_succ, List.getElem?_cons_zero] at s0 s1 s2 s3; have Y2 := Lib.hid y2; have Y3 := Lib.hid y3; have HB9 := Lib.hid (HWW.out.trans (hb9.mono (by omega))); clear hb hq hi1 hj hj1 hb9 y2 y3; have hb := hb2))
      have HXX := Lib.hid (ret2_store (er := 0) hi2.out hj2.out Y2.out Y3.out (by omega) HB9.out (by omega) (by omega))
      go_wp2_with (fail)
      exact bodyPost_ret (v := .tuple #[.agg #[.bool f1, .slice A1 n1 c1'], .agg #[.bool f2, .slice A2 n2 c2'], .int .i64 0]) (by simp [results, Tryd.results33, go_sem, s0, s1, s2, s3]) rfl HXX.out
end Go.Proofs.YtnkklmbmodkogaaDoor
