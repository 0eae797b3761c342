/- Package blake: rows of bytes in a variable; the steps of a round. -/
import Derived.Test.YtdjfklllfbenjaaDoorBd
import Derived.StillTailTactics
namespace Go.Proofs.YtdjfklllfbenjaaDoor
open Go.RowKit

theorem infoU32 : (Tryd.prog.info? 64).map (·.size) = some 1 := by kernel_rfl
theorem infoU8 : (Tryd.prog.info? 5).map (·.size) = some 1 := by kernel_rfl
theorem zero8 : u32s [0, 0, 0, 0, 0, 0, 0, 0] = #[.int .u32 0, .int .u32 0, .int .u32 0, .int .u32 0, .int .u32 0, .int .u32 0, .int .u32 0, .int .u32 0] := rfl
theorem three_new (w : World) (T T' T'' : TypeId) (P Q R : Array Value) :
    (((w.alloc (.cells P T)).alloc (.cells Q T')).alloc (.cells R T'')).heap[w.heap.size]? = some (.cells P T (0, 0)) ∧ (((w.alloc (.cells P T)).alloc (.cells Q T')).alloc (.cells R T'')).heap[w.heap.size + 1]? = some (.cells Q T' (0, 0)) ∧
    (((w.alloc (.cells P T)).alloc (.cells Q T')).alloc (.cells R T'')).heap[w.heap.size + 2]? = some (.cells R T'' (0, 0)) ∧
    Below w.heap.size w (((w.alloc (.cells P T)).alloc (.cells Q T')).alloc (.cells R T'')) ∧ (((w.alloc (.cells P T)).alloc (.cells Q T')).alloc (.cells R T'')).heap.size = w.heap.size + 3 := by
  have e1 : ((w.alloc (.cells P T)).alloc (.cells Q T')).heap.size = w.heap.size + 2 := by simp
  refine ⟨?_, ?_, ?_, Go.Proofs.YtdjfklllfbenjaaDoor.Below.next (Go.Proofs.YtdjfklllfbenjaaDoor.Below.next (Below.new w _) (Below.new _ _)) (Below.new _ _), by simp⟩
  · exact (Below.heap_alloc _ _ _ (by rw [e1]; omega)).trans (heap_alloc2_old w _ _)
  · exact (Below.heap_alloc _ _ _ (by rw [e1]; omega)).trans (heap_alloc2_new w _ _)
  · have := heap_alloc_new ((w.alloc (.cells P T)).alloc (.cells Q T')) (.cells R T'')
    rwa [e1] at this
/-- Block b is one variable of type T that holds the bytes ds. -/
def U8 (w : World) (b : Nat) (T : TypeId) (ds : List Int) : Prop := w.heap[b]? = some (.cells (u8s ds) T (0, 0))
section
variable {w w' : World} {p b : Nat} {T : TypeId} {ds : List Int}
theorem U8.lt (h : U8 w b T ds) : b < w.heap.size := by
  rcases Nat.lt_or_ge b w.heap.size with hl | hl
  · exact hl
  · unfold U8 at h; rw [Array.getElem?_eq_none hl] at h; cases h
theorem U8.at_at (h : U8 w b T ds) {k : Nat} {z : Int} (hk : k < ds.length) (hz : at_ ds k = z) : w.cell? ⟨b, k, none⟩ = some (.int .u8 z) := by
  have := cell_of_row w b k (u8s ds) T (0, 0) h
  rw [this, ← hz]
  simp [u8s, at_, hk]
theorem U8.free (h : U8 w b T ds) (k : Nat) : w.frozen? ⟨b, k, none⟩ = false := by
  unfold U8 at h
  simp [World.frozen?, h]
theorem U8.new (w : World) (T : TypeId) (ds : List Int) : U8 (w.alloc (.cells (u8s ds) T)) w.heap.size T ds := heap_alloc_new w _
theorem U8.but (h : U8 w b T ds) (hb : But p w w') (hne : b ≠ p) : U8 w' b T ds := (hb.block b hne h.lt).trans h
theorem U8.setRow {es : List Int} (h : U8 w b T ds) : U8 (w.setRow b (u8s es)) b T es := setRow_heap w b (u8s ds) (u8s es) T (0, 0) h
end
theorem info16b (xs : List Int) (h : xs.length = 16) : (Tryd.prog.info? 86).map (·.size) = some (u8s xs).size := by
  rw [u8s_size, h]; kernel_rfl
theorem st16b {ops : Array Oper} {rest : List Oper} {o : Oper} {a : Act} {w : World} {Q : Exit → Act → World → Prop} (hgd : o.guard = none) (x y : Operand) (ho : o.op = .store 86 x y)
    (g : Nat) (hx : a.eval x = .pointer (some ⟨g, 0, none⟩)) (ys xs : List Int) (hy : a.eval y = .agg (u8s xs)) (hb : U8 w g 86 ys) (h8 : xs.length = 16) (h8' : ys.length = 16)
    (h : wpList Tryd.prog ops Q rest (a.put o.dst undef) (w.setRow g (u8s xs))) : wpList Tryd.prog ops Q (o :: rest) a w :=
  wpList_store_row hgd 86 x y ho g (u8s xs) hx hy 86 (u8s ys) hb (info16b xs h8) (by rw [u8s_size, u8s_size, h8, h8']) (u8s_one xs) h
theorem zero16b : u8s [0, 0, 0, 0, 0, 0, 0, 0, 0, 0, 0, 0, 0, 0, 0, 0] = #[.int .u8 0, .int .u8 0, .int .u8 0, .int .u8 0, .int .u8 0, .int .u8 0, .int .u8 0, .int .u8 0, .int .u8 0, .int .u8 0, .int .u8 0, .int .u8 0, .int .u8 0, .int .u8 0, .int .u8 0, .int .u8 0] := rfl
theorem rowZ_len (k : Nat) : (rowZ k).length = 16 := by simp [rowZ]
theorem rowZ_at (k j : Nat) (hj : j < 16) : at_ (rowZ k) j = ((rowV k j : Nat) : Int) := by simp [rowZ, at_, hj]
theorem sx1 (ws : List Int) (k : Nat) (v : List Int) : stepsL ws k v 1 = mixL (stepsL ws k v 0) 0 4 8 12 (at_ ws (rowV k 0)) (at_ ws (rowV k 1)) := rfl
theorem sx2 (ws : List Int) (k : Nat) (v : List Int) : stepsL ws k v 2 = mixL (stepsL ws k v 1) 1 5 9 13 (at_ ws (rowV k 2)) (at_ ws (rowV k 3)) := rfl
theorem sx3 (ws : List Int) (k : Nat) (v : List Int) : stepsL ws k v 3 = mixL (stepsL ws k v 2) 2 6 10 14 (at_ ws (rowV k 4)) (at_ ws (rowV k 5)) := rfl
theorem sx4 (ws : List Int) (k : Nat) (v : List Int) : stepsL ws k v 4 = mixL (stepsL ws k v 3) 3 7 11 15 (at_ ws (rowV k 6)) (at_ ws (rowV k 7)) := rfl
theorem sx5 (ws : List Int) (k : Nat) (v : List Int) : stepsL ws k v 5 = mixL (stepsL ws k v 4) 0 5 10 15 (at_ ws (rowV k 8)) (at_ ws (rowV k 9)) := rfl
theorem sx6 (ws : List Int) (k : Nat) (v : List Int) : stepsL ws k v 6 = mixL (stepsL ws k v 5) 1 6 11 12 (at_ ws (rowV k 10)) (at_ ws (rowV k 11)) := rfl
theorem sx7 (ws : List Int) (k : Nat) (v : List Int) : stepsL ws k v 7 = mixL (stepsL ws k v 6) 2 7 8 13 (at_ ws (rowV k 12)) (at_ ws (rowV k 13)) := rfl
theorem sx8 (ws : List Int) (k : Nat) (v : List Int) : stepsL ws k v 8 = mixL (stepsL ws k v 7) 3 4 9 14 (at_ ws (rowV k 14)) (at_ ws (rowV k 15)) := rfl
theorem splice0 (h : List Int) (h8 : h.length = 8) : splice ((List.replicate 16 (0 : Int)).map (Value.int .u32)) 0 (h.map (Value.int .u32)) = (initTo h 0).map (Value.int .u32) := by
  rw [initTo_zero]
  unfold splice
  simp [h8]
end Go.Proofs.YtdjfklllfbenjaaDoor
