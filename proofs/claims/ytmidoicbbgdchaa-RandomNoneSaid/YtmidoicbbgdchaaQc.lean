/- Package random: a row of ints that the call itself made; Shuffle. -/
import Derived.Test.YtmidoicbbgdchaaQb
import Derived.RegionTactic
import Derived.Laws.AppendOwnNone
namespace Go.Proofs.Ytmidoicbbgdchaa
open Go.RowKit

theorem infoI64 : (Try.prog.info? 3).map (fun i => (i.zero, i.size, i.bytes)) = some (some (.int .i64 0), 1, 8) := by kernel_rfl
/-- v is a slice of the call's own (blocks from B on) that holds the ints ds. -/
def OwnI (w : World) (B : Nat) (v : Value) (ds : List Int) : Prop := w.ownsRow B 3 1 v ds.length (ds.map (Value.int .i64))
section
variable {w w' W : World} {B : Nat} {v : Value} {ds : List Int}
theorem OwnI.drew (h : OwnI w B v ds) : OwnI w.drew B v ds := h
theorem OwnI.set_ {g n c j : Nat} (h : OwnI w B (.slice (some ⟨g, 0, none⟩) n c) ds) (y : Int) : OwnI (w.setCell ⟨g, j, none⟩ (.int .i64 y)) B (.slice (some ⟨g, 0, none⟩) n c) (ds.set j y) := by
  have hn : n = ds.length := by
    rcases h.2 with ⟨e, _⟩ | ⟨_, _, _, e, _⟩
    · simp at e
    · injection e
  subst hn
  have := (World.ownsRow.stored h j (.int .i64 y)).1
  unfold OwnI
  simpa [List.map_set] using this
theorem OwnI.cellAt {g n c j : Nat} (h : OwnI w B (.slice (some ⟨g, 0, none⟩) n c) ds) (hj : j < ds.length) : w.cell? ⟨g, j, none⟩ = some (.int .i64 (ds[j]?.getD 0)) := by
  have hn : n = ds.length := by
    rcases h.2 with ⟨e, _⟩ | ⟨_, _, _, e, _⟩
    · simp at e
    · injection e
  subst hn
  rw [World.ownsRow.cellAt h j (by omega)]
  simp [hj]
theorem OwnI.freeAt {g n c : Nat} (h : OwnI w B (.slice (some ⟨g, 0, none⟩) n c) ds) (j : Nat) : w.frozen? ⟨g, j, none⟩ = false := by
  have hn : n = ds.length := by
    rcases h.2 with ⟨e, _⟩ | ⟨_, _, _, e, _⟩
    · simp at e
    · injection e
  subst hn
  exact World.ownsRow.frozenAt h j
theorem OwnI.lt {g n c : Nat} (h : OwnI w B (.slice (some ⟨g, 0, none⟩) n c) ds) : g < w.heap.size := (World.ownsRow.lt h _ rfl).2
/-- The row's block is as it was. -/
theorem OwnI.same {g n c : Nat} (h : OwnI w B (.slice (some ⟨g, 0, none⟩) n c) ds) (hb : w'.heap[g]? = w.heap[g]?) : OwnI w' B (.slice (some ⟨g, 0, none⟩) n c) ds := by
  refine ⟨h.1, ?_⟩
  rcases h.2 with h2 | ⟨g', cap, cur, e, hB, hg, r⟩
  · exact .inl h2
  · have e1 : g = g' := by injection e with e1; simpa using e1
    exact .inr ⟨g', cap, cur, e, hB, by rw [← hg, ← e1]; exact hb, r⟩
end
/-- make([]int, n). -/
theorem makeI {ops : Array Oper} {rest : List Oper} {o : Oper} {a : Act} {Q : Exit → Act → World → Prop} {w W : World} {B : Nat}
    (hgd : o.guard = none) (l c : Operand) (T : TypeId) (ho : o.op = Op.makeSlice T l c) (hT : Try.prog.underlying T = some (.slice 3)) (n : Nat) (L C : Int)
    (hl : a.eval l = .int .i64 L) (hc : a.eval c = .int .i64 C) (hL : L = (n : Int)) (hC : C = (n : Int)) (hn : n < 1000000000000) (hb : Below B W w) (hB : B ≤ w.heap.size)
    (h : ∀ w', OwnI w' w.heap.size (.slice (some ⟨w.heap.size, 0, none⟩) n n) (List.replicate n 0) → Below B W w' → w.heap.size < w'.heap.size → Below w.heap.size w w' → wpList Try.prog ops Q rest (a.put o.dst (.slice (some ⟨w.heap.size, 0, none⟩) n n)) w') : wpList Try.prog ops Q (o :: rest) a w := by
  obtain ⟨i0, hi, hz0, hz1, hz2⟩ := info_parts infoI64
  refine wpList_make_full w hgd l c T ho w.heap.size 3 i0 (.int .i64 0) 1 hT hi hz0 hz1 .i64 .i64 L C n hl hc hL hC (by rw [hz2]; omega) (by unfold maxLen; omega) (Nat.le_refl _) fun w' h1 h2 => h w' ?_ ?_ ?_ ?_
  · unfold OwnI
    have e : (madeCells (Value.cells (.int .i64 0)) (n * 1)).toList = (List.replicate n (0 : Int)).map (Value.int .i64) := by
      rw [Nat.mul_one]
      exact (toList_madeCells_one (.int .i64 0) n).trans (by simp)
    rw [e] at h1
    simpa using h1
  · exact hb.grown h2 hB fun k hk => by cases hk
  · exact (World.ownsRow.lt h1 _ rfl).2
  · exact (Below.refl w.heap.size w).grown h2 (Nat.le_refl _) fun k hk => by cases hk
end Go.Proofs.Ytmidoicbbgdchaa
