/- Package blake: a computation in memory. -/
import Derived.Test.YtdjfklllfbenjaaDoorBf
import Derived.Deep.MidRow
namespace Go.Proofs.YtdjfklllfbenjaaDoor
open Go.RowKit

structure Hst where
  st : List Int
  before : Nat
  rest : List Int
  used : Nat
  head : Nat
def hcells (x : Hst) : List Value := .bool true :: (x.st.map (Value.int .u32) ++ (.int .u64 x.before :: (x.rest.map (Value.int .u8) ++ [.int .i64 x.used, .int .i64 x.head])))
/-- A computation is well formed. -/
def Hst.ok (x : Hst) : Prop := x.st.length = 8 ∧ x.rest.length = 64
/-- Block p is the computation x. -/
def HashAt (w : World) (p : Nat) (x : Hst) : Prop := w.heap[p]? = some (.cells (hcells x).toArray 71 (0, 0)) ∧ x.ok
theorem hcells_len {x : Hst} (h : x.ok) : (hcells x).length = 76 := by simp [hcells, h.1, h.2]
theorem hcells_0 (x : Hst) : (hcells x)[0]? = some (.bool true) := rfl
theorem hcells_st {x : Hst} (h : x.ok) (k : Nat) (hk : k < 8) : (hcells x)[1 + k]? = some (.int .u32 (at_ x.st k)) := by
  unfold hcells
  rw [Nat.add_comm, List.getElem?_cons_succ, List.getElem?_append_left (by simp [h.1, hk])]
  simp [at_, h.1, hk]
theorem hcells_tail {x : Hst} (h : x.ok) (k : Nat) : (hcells x)[9 + k]? = (Value.int .u64 x.before :: (x.rest.map (Value.int .u8) ++ [.int .i64 x.used, .int .i64 x.head]))[k]? := by
  unfold hcells
  rw [show 9 + k = (8 + k) + 1 by omega, List.getElem?_cons_succ, List.getElem?_append_right (by simp [h.1])]
  simp [h.1]
theorem hcells_before {x : Hst} (h : x.ok) : (hcells x)[9]? = some (.int .u64 x.before) := hcells_tail h 0
theorem hcells_rest {x : Hst} (h : x.ok) (k : Nat) (hk : k < 64) : (hcells x)[10 + k]? = some (.int .u8 (at_ x.rest k)) := by
  rw [show 10 + k = 9 + (k + 1) by omega, hcells_tail h, List.getElem?_cons_succ, List.getElem?_append_left (by simp [h.2, hk])]
  simp [at_, h.2, hk]
theorem hcells_used {x : Hst} (h : x.ok) : (hcells x)[74]? = some (.int .i64 x.used) := by
  rw [show 74 = 9 + (64 + 1) by rfl, hcells_tail h, List.getElem?_cons_succ, List.getElem?_append_right (by simp [h.2])]
  simp [h.2]
theorem hcells_head {x : Hst} (h : x.ok) : (hcells x)[75]? = some (.int .i64 x.head) := by
  rw [show 75 = 9 + (65 + 1) by rfl, hcells_tail h, List.getElem?_cons_succ, List.getElem?_append_right (by simp [h.2])]
  simp [h.2]
section
variable {w w' : World} {p q : Nat} {x : Hst}
theorem HashAt.lt (h : HashAt w p x) : p < w.heap.size := by
  rcases Nat.lt_or_ge p w.heap.size with hl | hl
  · exact hl
  · have := h.1; rw [Array.getElem?_eq_none hl] at this; cases this
theorem HashAt.cell (h : HashAt w p x) (k : Nat) : w.cell? ⟨p, k, none⟩ = (hcells x)[k]? := by
  rw [cell_of_row w p k _ 71 (0, 0) h.1]; simp
theorem HashAt.free (h : HashAt w p x) (k : Nat) : w.frozen? ⟨p, k, none⟩ = false := by simp [World.frozen?, h.1]
theorem HashAt.but (h : HashAt w p x) (hb : But q w w') (hne : p ≠ q) : HashAt w' p x := ⟨(hb.block p hne h.lt).trans h.1, h.2⟩
theorem HashAt.below {B : Nat} (h : HashAt w p x) (hb : Below B w w') (hp : p < B) : HashAt w' p x := ⟨(hb.block p hp).trans h.1, h.2⟩
theorem HashAt.drew (h : HashAt w p x) : HashAt w.drew p x := h
theorem HashAt.alloc (h : HashAt w p x) (o : Obj) : HashAt (w.alloc o) p x := ⟨(Below.heap_alloc w o p h.lt).trans h.1, h.2⟩
theorem HashAt.far (h : HashAt w p x) {a : Addr} (hp : p ≠ a.block) (u : Value) : HashAt (w.setCell a u) p x := ⟨(Below.heap_setCell w a u p hp).trans h.1, h.2⟩
theorem HashAt.to (h : HashAt w p x) {x' : Hst} (hk : x'.ok) (k : Nat) (v : Value) (e : (hcells x).set k v = hcells x') : HashAt (w.setCell ⟨p, k, none⟩ v) p x' := by
  refine ⟨?_, hk⟩
  rw [heap_setCell_same w p k _ 71 v h.1]
  simp [← e]
theorem HashAt.row (h : HashAt w p x) {x' : Hst} (hk : x'.ok) {cs : Array Value} (e : cs = (hcells x').toArray) : HashAt (w.setRow p cs) p x' := by
  subst e
  exact ⟨setRow_heap w p _ _ 71 (0, 0) h.1, hk⟩
end
theorem set_before {x : Hst} (h : x.ok) (b : Nat) : (hcells x).set 9 (.int .u64 b) = hcells { x with before := b } := by
  unfold hcells
  rw [show 9 = 8 + 1 by rfl, List.set_cons_succ, List.set_append_right _ _ (by simp [h.1])]
  simp [h.1]
theorem set_used {x : Hst} (h : x.ok) (n : Nat) : (hcells x).set 74 (.int .i64 n) = hcells { x with used := n } := by
  unfold hcells
  rw [show 74 = 73 + 1 by rfl, List.set_cons_succ, List.set_append_right _ _ (by simp [h.1])]
  simp only [List.length_map, h.1]
  rw [show 73 - 8 = 64 + 1 by rfl, List.set_cons_succ, List.set_append_right _ _ (by simp [h.2])]
  simp [h.2]
theorem set_head {x : Hst} (h : x.ok) (n : Nat) : (hcells x).set 75 (.int .i64 n) = hcells { x with head := n } := by
  unfold hcells
  rw [show 75 = 74 + 1 by rfl, List.set_cons_succ, List.set_append_right _ _ (by simp [h.1])]
  simp only [List.length_map, h.1]
  rw [show 74 - 8 = 65 + 1 by rfl, List.set_cons_succ, List.set_append_right _ _ (by simp [h.2])]
  simp [h.2]
theorem set_st0 {x : Hst} (h : x.ok) (v : Int) : (hcells x).set 1 (.int .u32 v) = hcells { x with st := x.st.set 0 v } := by
  unfold hcells
  rw [show 1 = 0 + 1 by rfl, List.set_cons_succ, List.set_append_left _ _ (by simp [h.1]), List.map_set]
theorem splice_app_right {α : Type} (A B : List α) (u : Nat) (cs : List α) : splice (A ++ B) (A.length + u) cs = A ++ splice B u cs := by
  unfold splice
  rw [List.take_length_add_append, List.append_assoc, Nat.add_assoc, List.drop_length_add_append]
theorem splice_app_left {α : Type} (A B : List α) (u : Nat) (cs : List α) (h : u + cs.length ≤ A.length) : splice (A ++ B) u cs = splice A u cs ++ B := by
  unfold splice
  rw [List.take_append_of_le_length (by omega), List.drop_append_of_le_length h, List.append_assoc, List.append_assoc]
theorem splice_cons {α : Type} (a : α) (B : List α) (u : Nat) (cs : List α) : splice (a :: B) (u + 1) cs = a :: splice B u cs := by
  unfold splice
  rw [List.take_succ_cons, show u + 1 + cs.length = (u + cs.length) + 1 by omega, List.drop_succ_cons, List.cons_append]
theorem splice_map {α β : Type} (f : α → β) (L : List α) (u : Nat) (cs : List α) : splice (L.map f) u (cs.map f) = (splice L u cs).map f := by
  unfold splice
  rw [List.map_append, List.map_append, List.map_take, List.map_drop, List.length_map]
theorem splice_whole {α : Type} (L cs : List α) (h : L.length = cs.length) : splice L 0 cs = cs := by
  unfold splice
  rw [Nat.zero_add, ← h, List.drop_length]; simp
theorem splice_st {x : Hst} (h : x.ok) (s : List Int) (hs : s.length = 8) : splice (hcells x) 1 (s.map (Value.int .u32)) = hcells { x with st := s } := by
  unfold hcells
  rw [show 1 = 0 + 1 by rfl, splice_cons, splice_app_left _ _ _ _ (by simp [h.1, hs]), splice_map, splice_whole _ _ (by rw [h.1, hs])]
theorem splice_rest {x : Hst} (h : x.ok) (u : Nat) (ds : List Int) (hu : u + ds.length ≤ 64) : splice (hcells x) (10 + u) (ds.map (Value.int .u8)) = hcells { x with rest := splice x.rest u ds } := by
  unfold hcells
  rw [show 10 + u = ((x.st.map (Value.int .u32)).length + (u + 1)) + 1 by simp [h.1]; omega, splice_cons, splice_app_right, splice_cons, splice_app_left _ _ _ _ (by simp [h.2]; exact hu), splice_map]
/-- What the store of a whole row into the middle of a block that is known leaves. -/
theorem run_storeAt_splice {w : World} {g o : Nat} {ty : TypeId} {cells cur : List Value} {t : TypeId} (hg : w.heap[g]? = some (.cells cur.toArray t (0, 0))) (hi : (Tryd.prog.info? ty).map (·.size) = some cells.length)
    (hl : o + cells.length ≤ cur.length) (h1 : ∀ v ∈ cells, v.oneCell' = true) :
    (Instr.storeAt ty (.pointer (some ⟨g, o, none⟩)) (.agg cells.toArray)).run Tryd.prog w = .ok () (w.setRow g (splice cur o cells).toArray) := by
  have := run_storeCells_at (P := Tryd.prog) g o t cells 0 cur.toArray w hg (by simpa using hl) h1
  cases hq : Tryd.prog.info? ty with
  | none => simp [hq] at hi
  | some i =>
    have hs : cells.length = i.size := by simp [hq] at hi; omega
    simp [Instr.storeAt, Instr.sureAddr, storeVar, sizeOf, typeInfo, hq, Value.cells, hs, this, splice, List.append_assoc]
theorem HashAt.stRange {w : World} {p : Nat} {x : Hst} (h : HashAt w p x) : w.rangeAt p 1 (x.st.map (Value.int .u32)) := by
  intro j v hv
  have hj : j < 8 := by have := (List.getElem?_eq_some_iff.1 hv).1; simpa [h.2.1] using this
  rw [h.cell, hcells_st h.2 j hj, ← hv]
  simp [at_, h.2.1, hj]
end Go.Proofs.YtdjfklllfbenjaaDoor
