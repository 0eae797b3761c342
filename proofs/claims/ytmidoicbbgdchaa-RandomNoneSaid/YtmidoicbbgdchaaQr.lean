/- The statement RandomNone: the walk. -/
import Derived.Test.YtmidoicbbgdchaaQm
import Derived.RangeFuncNested
import Derived.RangeFuncBound
import Derived.RangeFuncCalls
import Derived.RangeFuncLeaves
import Derived.RangeFuncFrom
import Derived.Shelf.Abstract
import Derived.Shelf.RegionOpen
import Derived.OwnWalkIn
import Derived.TacticsInMore
import Derived.LoopNIn
import Derived.LoopIn
namespace Go.Proofs.Ytmidoicbbgdchaa
open Go.RowKit Go.Shelf
attribute [local go_sem] Oper.semAt_some

/-- The iterator, as the loop's law wants it: nothing comes. -/
theorem noneStops {w : World} {b0 b1 : Nat} (n : Int) (k : Nat) (hw0 : b0 < w.heap.size) (hw1 : b1 < w.heap.size) (h1 : w.cell? ⟨b1, 0, none⟩ = some (.pointer none)) (h0 : w.cell? ⟨b0, 0, none⟩ = some (.int .i64 n)) (Kp : World → World → Prop) :
    SeqStopsK (α := Unit) Fence.wide k Try.prog 25 #[.pointer (some ⟨b1, 0, none⟩), .pointer (some ⟨b0, 0, none⟩)] (fun _ => #[.int .i64 0]) Kp (fun xs => xs = []) (fun _ => False) 0 w :=
  fun l J Jx W hW hJ hJx hY hj => by
    refine (callsIn_wide.2 (loopNo n ((hW.cell (p := ⟨b1, 0, none⟩) hw1).trans h1) ((hW.cell (p := ⟨b0, 0, none⟩) hw0).trans h0))).mono ?_
    rintro e W' ⟨hv, rfl⟩
    exact ⟨hv, .inl ⟨[], rfl, hj⟩⟩
theorem three_new (w : World) (T U V : TypeId) (a b c d e : Value) :
    (((w.alloc (.cells #[a] T)).alloc (.cells #[b, c] U)).alloc (.cells #[d, e] V)).cell? ⟨w.heap.size, 0, none⟩ = some a ∧ (((w.alloc (.cells #[a] T)).alloc (.cells #[b, c] U)).alloc (.cells #[d, e] V)).frozen? ⟨w.heap.size, 0, none⟩ = false ∧
    (((w.alloc (.cells #[a] T)).alloc (.cells #[b, c] U)).alloc (.cells #[d, e] V)).cell? ⟨w.heap.size + 1, 1, none⟩ = some c ∧ (((w.alloc (.cells #[a] T)).alloc (.cells #[b, c] U)).alloc (.cells #[d, e] V)).cell? ⟨w.heap.size + 1 + 1, 0, none⟩ = some d ∧
    (((w.alloc (.cells #[a] T)).alloc (.cells #[b, c] U)).alloc (.cells #[d, e] V)).cell? ⟨w.heap.size + 1 + 1, 1, none⟩ = some e ∧ (((w.alloc (.cells #[a] T)).alloc (.cells #[b, c] U)).alloc (.cells #[d, e] V)).heap.size = w.heap.size + 3 ∧
    Below w.heap.size w (((w.alloc (.cells #[a] T)).alloc (.cells #[b, c] U)).alloc (.cells #[d, e] V)) := by
  have s1 : (w.alloc (.cells #[a] T)).heap.size = w.heap.size + 1 := by simp
  have s2 : ((w.alloc (.cells #[a] T)).alloc (.cells #[b, c] U)).heap.size = w.heap.size + 1 + 1 := by simp
  have h1 : (w.alloc (.cells #[a] T)).heap[w.heap.size]? = some (.cells #[a] T (0, 0)) := heap_alloc_new w _
  have h2 : ((w.alloc (.cells #[a] T)).alloc (.cells #[b, c] U)).heap[w.heap.size + 1]? = some (.cells #[b, c] U (0, 0)) := by
    have := heap_alloc_new (w.alloc (.cells #[a] T)) (.cells #[b, c] U)
    rwa [s1] at this
  have h3 : (((w.alloc (.cells #[a] T)).alloc (.cells #[b, c] U)).alloc (.cells #[d, e] V)).heap[w.heap.size + 1 + 1]? = some (.cells #[d, e] V (0, 0)) := by
    have := heap_alloc_new ((w.alloc (.cells #[a] T)).alloc (.cells #[b, c] U)) (.cells #[d, e] V)
    rwa [s2] at this
  have k1 : (((w.alloc (.cells #[a] T)).alloc (.cells #[b, c] U)).alloc (.cells #[d, e] V)).heap[w.heap.size]? = some (.cells #[a] T (0, 0)) := (Below.heap_alloc _ _ _ (by omega)).trans ((Below.heap_alloc _ _ _ (by omega)).trans h1)
  have k2 : (((w.alloc (.cells #[a] T)).alloc (.cells #[b, c] U)).alloc (.cells #[d, e] V)).heap[w.heap.size + 1]? = some (.cells #[b, c] U (0, 0)) := (Below.heap_alloc _ _ _ (by omega)).trans h2
  refine ⟨by rw [cell_of_row _ _ 0 _ T (0, 0) k1]; rfl, by simp [World.frozen?, k1], by rw [cell_of_row _ _ 1 _ U (0, 0) k2]; rfl, by rw [cell_of_row _ _ 0 _ V (0, 0) h3]; rfl, by rw [cell_of_row _ _ 1 _ V (0, 0) h3]; rfl, by simp, ?_⟩
  exact (((Below.refl w.heap.size w).alloc (Nat.le_refl _) _).alloc (by simp) _).alloc (by simp; omega) _
theorem range_none {g : Operand} {ps : Array Tmp} {body : Code} {Q : Exit → Act → World → Prop} {a : Act} {w : World} {gf : Nat} {lb : Array Value}
    (hg : a.eval g = .func (.func gf) #[] lb) (eg : ∀ args w, (callFunc gf args).run Try.prog w = .ok (.enter gf args) w) (hps : ps.size = 1)
    (hseq : SeqStopsK (α := Unit) Fence.wide 2 Try.prog gf lb (fun _ => #[.int .i64 0]) (Below w.heap.size) (fun xs => xs = []) (fun _ => False) 0 w)
    (hdone : ∀ D W, w.heap.size ≤ D → Below w.heap.size w W → W.heap[D]? = some (.deferred (some [])) → Q .normal { a with defers := { target := .collected D, args := #[] } :: a.defers } W) :
    (Code.rangeFunc g ps .skip body).wpIn Fence.wide 3 Try.prog Q a w :=
  wpIn_rangeFunc_ownF rfl (by decide) hg trivial eg hseq belowK_t (belowK_b (Nat.le_refl _)) (Below.refl _ _) (fun _ => by simp [hps]) (fun _ W => Below w.heap.size w W) (fun _ _ _ => False)
    (ownFrom_below (Nat.le_refl _) (Nat.le_refl _)) (fun _ _ _ _ _ hs _ _ => hs) (Below.refl _ _) (fun x => { tmps := (ps.zip ((fun _ : Unit => #[Value.int .i64 0]) x)).foldl (fun t (p, v) => t.setIfInBounds p v) a.tmps, defers := [] })
    (fun l x W K hK => wpIn_skip hK) (fun l pre x W _ h => absurd h (Nat.not_lt_zero _)) (fun D xs W hD _ hB hK => hdone D W hD hB hK) (fun D c pre W _ h => h.elim)
theorem below_put (W : World) {B D : Nat} (o : Obj) (h : B ≤ D) : Below B W (W.putObj D o) := ⟨rfl, rfl, rfl, by simp [World.putObj], fun k hk => World.putObj_heap_other (by omega)⟩
theorem func_nil (T : TypeId) (hT : T = 51) (f : Fn) (a b : Array Value) (W : World) : (binOp .eql T (.func f a b) .nilFunc).run Try.prog W = .ok (.bool false) W := by
  subst hT
  first | rfl | (simp [binOp, Op.equal, go_sem]; done) | (simp [binOp, Op.equal, Op.equalIn, go_sem]; done)
set_option maxRecDepth 100000 in
set_option maxHeartbeats 4000000 in
theorem none_any (n : Int) (w : World) : Calls Try.prog 6 #[.int .i64 n] w fun e w' => e = .returned (.bool true) ∧ Below w.heap.size w w' := by
  refine (callsIn_wide (n := 3)).1 ?_
  refine callsIn_of_wp_marks Try.func6 rfl trivial ?_ rfl
  simp only [Try.ntmps6, List.size_toArray, List.length_cons, List.length_nil, Nat.reduceAdd, Nat.reduceSub, Array.replicate_succ, Array.replicate_zero, List.push_toArray, List.append_toArray, List.nil_append, List.cons_append]
  gi_wp2_with (fail)
  refine wpIn_loop_rounds 3 ?_
  obtain ⟨W0, hW0⟩ : ∃ W0, ((w.alloc (.cells #[.bool false] 4)).alloc (.cells #[.int .u64 0, .bool false] 48)).alloc (.cells #[.pointer none, .pointer (some ⟨w.heap.size + 1, 0, none⟩)] 26) = W0 := ⟨_, rfl⟩
  obtain ⟨d1, d2, d3, d4, d5, d6, d7⟩ := three_new w 4 48 26 (.bool false) (.int .u64 0) (.bool false) (.pointer none) (.pointer (some ⟨w.heap.size + 1, 0, none⟩))
  rw [hW0] at d1 d2 d3 d4 d5 d6 d7 ⊢
  clear hW0
  obtain ⟨p, hp⟩ : ∃ p, p = w.heap.size := ⟨_, rfl⟩
  have HP := Lib.hid hp
  have D7 := Lib.hid d7
  have D6 := Lib.hid d6
  rw [← hp] at d1 d2 d3 d4 d5 D7 D6 ⊢
  clear hp d6 d7
  rw [roundsIn_succ]
  have hv : NoSrc W0 (.pointer none) := .inl rfl
  gi_wp2_with (fail)
  refine ⟨trivial, ?_⟩
  refine (callsIn_wide.2 (numberNo n hv)).mono ?_
  rintro e wx ⟨rfl, rfl⟩
  gi_wp2_with (fail)
  refine ⟨trivial, ?_⟩
  refine (callsIn_wide.2 (shuffleNo n hv)).mono ?_
  rintro e wx1 ⟨rfl, rfl⟩
  gi_wp2_with (fail)
  refine ⟨trivial, ?_⟩
  refine (callsIn_wide.2 (forkNo n hv)).mono ?_
  rintro e wx2 ⟨rfl, rfl⟩
  gi_wp2_with (fail)
  refine ⟨trivial, ?_⟩
  refine (callsIn_wide.2 (numbersNo n hv)).mono ?_
  rintro e w1 ⟨rfl, c1, c0, cs, cb⟩
  have hv1 := hv.below cb
  gi_wp2_with (fail)
  refine ⟨trivial, ?_⟩
  refine (callsIn_wide.2 (wordNo hv1)).mono ?_
  rintro e w1' ⟨rfl, rfl⟩
  gi_wp2_with (fail)
  refine ⟨trivial, ?_⟩
  refine (callsIn_wide.2 (copyNo hv1)).mono ?_
  rintro e w1'' ⟨rfl, rfl⟩
  have HF := func_nil 51 rfl
  gi_wp2_with (fail)
  clear HF
  refine range_none (gf := 25) (lb := #[.pointer (some ⟨wx2.heap.size + 1, 0, none⟩), .pointer (some ⟨wx2.heap.size, 0, none⟩)]) rfl (enters_of Try.func25 (by kernel_rfl) rfl) rfl
    (noneStops n 2 (by omega) (by omega) c1 c0 _) ?_
  intro D1 w2 hD1 hB1 hK1
  have h02 := cb.trans (hB1.mono (by omega))
  have hs0 : wx2.heap.size = p + 3 := D6.out
  have e1 := (h02.cell (p := ⟨p, 0, none⟩) (by show p < _; omega)).trans d1
  have e2 := (h02.frozen (p := ⟨p, 0, none⟩) (by show p < _; omega)).trans d2
  have e3 := (h02.cell (p := ⟨p + 1, 1, none⟩) (by show p + 1 < _; omega)).trans d3
  have e5 := (h02.cell (p := ⟨p + 1 + 1, 1, none⟩) (by show p + 1 + 1 < _; omega)).trans d5
  have B2 := Lib.hid (D7.out.trans (h02.mono (by omega)))
  have L2 := Lib.hid (show D1 < w2.heap.size ∧ p + 3 ≤ w2.heap.size ∧ p + 3 ≤ D1 from ⟨(Array.getElem?_eq_some_iff.1 hK1).1, by have := h02.size; omega, by omega⟩)
  have HK1 := Lib.hid hK1
  clear d1 d2 d3 d4 d5 D7 hv hv1 c1 c0 cs cb hB1 h02 hs0 hD1 hK1
  gi_wp2_with (fail)
  clear D6
  rw [roundsIn_succ]
  have hv : NoSrc w2 (.pointer (some ⟨p + 1, 0, none⟩)) := .inr ⟨p + 1, rfl, e3⟩
  gi_wp2_with (fail)
  refine ⟨trivial, ?_⟩
  refine (callsIn_wide.2 (numberNo n hv)).mono ?_
  rintro e wx ⟨rfl, rfl⟩
  gi_wp2_with (fail)
  refine ⟨trivial, ?_⟩
  refine (callsIn_wide.2 (shuffleNo n hv)).mono ?_
  rintro e wx1 ⟨rfl, rfl⟩
  gi_wp2_with (fail)
  refine ⟨trivial, ?_⟩
  refine (callsIn_wide.2 (forkNo n hv)).mono ?_
  rintro e wx2 ⟨rfl, rfl⟩
  gi_wp2_with (fail)
  refine ⟨trivial, ?_⟩
  refine (callsIn_wide.2 (numbersNo n hv)).mono ?_
  rintro e w3 ⟨rfl, c1, c0, cs, cb⟩
  have hv1 := hv.below cb
  gi_wp2_with (fail)
  refine ⟨trivial, ?_⟩
  refine (callsIn_wide.2 (wordNo hv1)).mono ?_
  rintro e w3' ⟨rfl, rfl⟩
  gi_wp2_with (fail)
  refine ⟨trivial, ?_⟩
  refine (callsIn_wide.2 (copyNo hv1)).mono ?_
  rintro e w3'' ⟨rfl, rfl⟩
  have HF := func_nil 51 rfl
  gi_wp2_with (fail)
  clear HF
  refine range_none (gf := 25) (lb := #[.pointer (some ⟨wx2.heap.size + 1, 0, none⟩), .pointer (some ⟨wx2.heap.size, 0, none⟩)]) rfl (enters_of Try.func25 (by kernel_rfl) rfl) rfl
    (noneStops n 2 (by omega) (by omega) c1 c0 _) ?_
  intro D2 w4 hD2 hB2 hK2
  have h24 := cb.trans (hB2.mono (by omega))
  have l2 := L2.out
  have f1 := (h24.cell (p := ⟨p, 0, none⟩) (by show p < _; omega)).trans e1
  have f2 := (h24.frozen (p := ⟨p, 0, none⟩) (by show p < _; omega)).trans e2
  have B4 := Lib.hid (B2.out.trans (h24.mono (by omega)))
  have HK14 := Lib.hid ((h24.block D1 l2.1).trans HK1.out)
  have HK2 := Lib.hid hK2
  have L4 := Lib.hid (show D1 < D2 ∧ D2 < w4.heap.size ∧ p < D1 from ⟨by omega, (Array.getElem?_eq_some_iff.1 hK2).1, by omega⟩)
  clear e1 e2 e3 e5 B2 hv hv1 c1 c0 cs cb hB2 h24 l2 hD2 hK2 HK1
  gi_wp2_with (fail)
  rw [roundsIn_succ]
  gi_wp2_with (fail)
  refine ⟨trivial, ?_⟩
  refine (callsIn_wide.2 (known_any _)).mono ?_
  rintro e w5 ⟨rfl, q5⟩
  have k1 := (q5.cell (p := ⟨p, 0, none⟩) (by show p < _; have := L4.out; omega)).trans f1
  have k2 := (q5.frozen (p := ⟨p, 0, none⟩) (by show p < _; have := L4.out; omega)).trans f2
  have B5 := Lib.hid (B4.out.trans (q5.mono (by have := L4.out; omega)))
  have K2 := Lib.hid ((q5.block D2 L4.out.2.1).trans HK2.out)
  have K1 := Lib.hid ((q5.block D1 (Nat.lt_trans L4.out.1 L4.out.2.1)).trans HK14.out)
  have S5 := Lib.hid (World.cell?_setCell_same' w5 ⟨p, 0, none⟩ (.bool true) (by rw [k1]; rfl))
  clear B4 HK2 HK14 q5
  gi_wp2_with (fail)
  clear k1 k2 f1 f2
  obtain ⟨l1, l2, l3⟩ := L4.out
  have hV2 : (w5.setCell ⟨p, 0, none⟩ (.bool true)).heap[D2]? = some (.deferred (some [])) := (Below.heap_setCell w5 ⟨p, 0, none⟩ (.bool true) D2 (by show D2 ≠ p; omega)).trans K2.out
  have hV1 : ((w5.setCell ⟨p, 0, none⟩ (.bool true)).putObj D2 (.deferred none)).heap[D1]? = some (.deferred (some [])) := (World.putObj_heap_other (by omega)).trans ((Below.heap_setCell w5 ⟨p, 0, none⟩ (.bool true) D1 (by show D1 ≠ p; omega)).trans K1.out)
  have hb1 := below_put (w5.setCell ⟨p, 0, none⟩ (.bool true)) (B := p + 1) (D := D2) (.deferred none) (by omega)
  have hb2 := below_put ((w5.setCell ⟨p, 0, none⟩ (.bool true)).putObj D2 (.deferred none)) (B := p + 1) (D := D1) (.deferred none) (by omega)
  have hb := hb1.trans hb2
  have hc := (hb.cell (p := ⟨p, 0, none⟩) (by show p < p + 1; omega)).trans S5.out
  refine ⟨by simp, .inl ⟨_, _, rfl, run_takeDeferred hV2, ?_⟩⟩
  refine ⟨by simp, .inl ⟨_, _, rfl, run_takeDeferred hV1, ?_⟩⟩
  refine ⟨.bool true, ?_, rfl, ?_⟩
  · simp [results, Try.f6, go_sem, hc]
  · rw [← HP.out]
    exact (B5.out.setCell (p := ⟨p, 0, none⟩) (Nat.le_refl _) _).trans (hb.mono (by omega))
end Go.Proofs.Ytmidoicbbgdchaa
