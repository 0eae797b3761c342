/- A shuffled list holds each number once; a row of bools. -/
import Derived.Test.YtmidoicbbgdchaaQh
namespace Go.Proofs.Ytmidoicbbgdchaa
open Go.RowKit

theorem swp_perm {l : List Int} {i j : Nat} (hi : i < l.length) (hj : j < l.length) : (swp l i j).Perm l := by
  unfold swp
  rw [List.getElem?_eq_getElem hi, List.getElem?_eq_getElem hj]
  exact List.set_set_perm hi hj
theorem shuf_perm : ∀ (i : Nat) (s : Int) (l : List Int), i < l.length → l.length ≤ 10000 → (shuf i s l).2.Perm l
  | 0, _, _, _, _ => List.Perm.refl _
  | i + 1, s, l, h, h1 => by
    obtain ⟨n0, n1⟩ := numV_b (n := ((i + 2 : Nat) : Int)) (s := s) (by omega) (by omega)
    obtain ⟨j, hj⟩ := Int.eq_ofNat_of_zero_le n0
    rw [shuf_succ, hj, Int.toNat_natCast]
    rw [hj] at n1
    have hp := swp_perm (l := l) (i := i + 1) (j := j) h (by omega)
    exact (shuf_perm i _ _ (by rw [swp_len]; omega) (by rw [swp_len]; exact h1)).trans hp
theorem shufL_perm {n : Nat} (s : Int) (hn : n ≤ 200) : (shufL n s).Perm (ups n) := by
  unfold shufL
  rcases Nat.eq_zero_or_pos n with rfl | h
  · exact List.Perm.refl _
  · exact shuf_perm _ _ _ (by rw [ups_len]; omega) (by rw [ups_len]; omega)
theorem ups_nodup (n : Nat) : (ups n).Nodup := by
  unfold ups List.Nodup
  rw [List.pairwise_map]
  exact (List.nodup_range (n := n)).imp fun h e => h (by omega)
theorem shufL_len {n : Nat} (s : Int) (hn : n ≤ 200) : (shufL n s).length = n := by rw [(shufL_perm s hn).length_eq, ups_len]
theorem shufL_at {n k : Nat} (s : Int) (hn : n ≤ 200) (hk : k < n) : ∃ v : Nat, (shufL n s)[k]?.getD 0 = (v : Int) ∧ v < n ∧ (v : Int) ∉ (shufL n s).take k ∧ (shufL n s).take (k + 1) = (shufL n s).take k ++ [(v : Int)] := by
  have hl := shufL_len s hn
  have hp := shufL_perm s hn
  have hk' : k < (shufL n s).length := by omega
  have hm : (shufL n s)[k] ∈ ups n := hp.mem_iff.1 (List.getElem_mem hk')
  unfold ups at hm
  obtain ⟨v, hv, e⟩ := List.mem_map.1 hm
  have ht : (shufL n s).take (k + 1) = (shufL n s).take k ++ [(shufL n s)[k]] := List.take_succ_eq_append_getElem hk'
  have hnd : ((shufL n s).take (k + 1)).Nodup := (hp.nodup_iff.2 (ups_nodup n)).sublist (List.take_sublist _ _)
  rw [ht, List.nodup_append] at hnd
  refine ⟨v, by rw [List.getElem?_eq_getElem hk', ← e]; rfl, by simpa using hv, fun hmem => ?_, by rw [ht, ← e]⟩
  exact hnd.2.2 _ hmem _ (by rw [← e]; simp) rfl
/-- Which numbers have been seen. -/
def sb (n : Nat) (l : List Int) : List Bool := (List.range n).map fun v : Nat => decide ((v : Int) ∈ l)
theorem sb_len (n : Nat) (l : List Int) : (sb n l).length = n := by simp [sb]
theorem sb_nil (n : Nat) : sb n [] = List.replicate n false := by
  apply List.ext_getElem
  · simp [sb]
  · intro k h1 h2; simp [sb]
theorem sb_at {n v : Nat} {l : List Int} (h : v < n) (hv : (v : Int) ∉ l) : (sb n l)[v]?.getD false = false := by simp [sb, h, hv]
theorem sb_set {n v : Nat} {l : List Int} : (sb n l).set v true = sb n (l ++ [(v : Int)]) := by
  apply List.ext_getElem
  · simp [sb]
  · intro k h1 h2
    rw [List.getElem_set]
    simp only [sb, List.getElem_map, List.getElem_range]
    split
    · subst v; simp
    · rename_i h
      have : (k : Int) ≠ (v : Int) := by omega
      simp [this]

theorem infoB : (Try.prog.info? 4).map (fun i => (i.zero, i.size, i.bytes)) = some (some (.bool false), 1, 1) := by kernel_rfl
def OwnB (w : World) (B : Nat) (v : Value) (ds : List Bool) : Prop := w.ownsRow B 4 1 v ds.length (ds.map Value.bool)
section
variable {w w' : World} {B : Nat} {ds : List Bool}
theorem OwnB.set_ {g n c j : Nat} (h : OwnB w B (.slice (some ⟨g, 0, none⟩) n c) ds) (y : Bool) : OwnB (w.setCell ⟨g, j, none⟩ (.bool y)) B (.slice (some ⟨g, 0, none⟩) n c) (ds.set j y) := by
  have hn : n = ds.length := by
    rcases h.2 with ⟨e, _⟩ | ⟨_, _, _, e, _⟩
    · simp at e
    · injection e
  subst hn
  have := (World.ownsRow.stored h j (.bool y)).1
  unfold OwnB
  simpa [List.map_set] using this
theorem OwnB.cellAt {g n c j : Nat} (h : OwnB w B (.slice (some ⟨g, 0, none⟩) n c) ds) (hj : j < ds.length) : w.cell? ⟨g, j, none⟩ = some (.bool (ds[j]?.getD false)) := by
  have hn : n = ds.length := by
    rcases h.2 with ⟨e, _⟩ | ⟨_, _, _, e, _⟩
    · simp at e
    · injection e
  subst hn
  rw [World.ownsRow.cellAt h j (by omega)]
  simp [hj]
theorem OwnB.freeAt {g n c : Nat} (h : OwnB w B (.slice (some ⟨g, 0, none⟩) n c) ds) (j : Nat) : w.frozen? ⟨g, j, none⟩ = false := by
  have hn : n = ds.length := by
    rcases h.2 with ⟨e, _⟩ | ⟨_, _, _, e, _⟩
    · simp at e
    · injection e
  subst hn
  exact World.ownsRow.frozenAt h j
end
/-- make([]bool, n). -/
theorem makeB {ops : Array Oper} {rest : List Oper} {o : Oper} {a : Act} {Q : Exit → Act → World → Prop} {w W : World} {B : Nat}
    (hgd : o.guard = none) (l c : Operand) (T : TypeId) (ho : o.op = Op.makeSlice T l c) (hT : Try.prog.underlying T = some (.slice 4)) (n : Nat) (L C : Int)
    (hl : a.eval l = .int .i64 L) (hc : a.eval c = .int .i64 C) (hL : L = (n : Int)) (hC : C = (n : Int)) (hn : n < 1000000000000) (hb : Below B W w) (hB : B ≤ w.heap.size)
    (h : ∀ w', OwnB w' w.heap.size (.slice (some ⟨w.heap.size, 0, none⟩) n n) (List.replicate n false) → Below B W w' → w.heap.size < w'.heap.size → Below w.heap.size w w' → wpList Try.prog ops Q rest (a.put o.dst (.slice (some ⟨w.heap.size, 0, none⟩) n n)) w') : wpList Try.prog ops Q (o :: rest) a w := by
  obtain ⟨i0, hi, hz0, hz1, hz2⟩ := info_parts infoB
  refine wpList_make_full w hgd l c T ho w.heap.size 4 i0 (.bool false) 1 hT hi hz0 hz1 .i64 .i64 L C n hl hc hL hC (by rw [hz2]; omega) (by unfold maxLen; omega) (Nat.le_refl _) fun w' h1 h2 => h w' ?_ ?_ ?_ ?_
  · unfold OwnB
    have e : (madeCells (Value.cells (.bool false)) (n * 1)).toList = (List.replicate n false).map Value.bool := by
      rw [Nat.mul_one]
      exact (toList_madeCells_one (.bool false) n).trans (by simp)
    rw [e] at h1
    simpa using h1
  · exact hb.grown h2 hB fun k hk => by cases hk
  · exact (World.ownsRow.lt h1 _ rfl).2
  · exact (Below.refl w.heap.size w).grown h2 (Nat.le_refl _) fun k hk => by cases hk
end Go.Proofs.Ytmidoicbbgdchaa
