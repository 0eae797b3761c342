/- The reference: Words, Row, Lane. -/
import Derived.Test.YtdjfklllfbenjaaDoorBo
namespace Go.Proofs.YtdjfklllfbenjaaDoor
open Go.RowKit

def laysAll (w : World) : List Obj → World
  | [] => w
  | o :: r => laysAll (w.alloc o) r
theorem laysAll_old : ∀ (os : List Obj) (w : World) (i : Nat), i < w.heap.size → (laysAll w os).heap[i]? = w.heap[i]?
  | [], _, _, _ => rfl
  | o :: r, w, i, h => (laysAll_old r (w.alloc o) i (by simp; omega)).trans (Below.heap_alloc w o i h)
theorem laysAll_at : ∀ (os : List Obj) (w : World) (k : Nat), k < os.length → (laysAll w os).heap[w.heap.size + k]? = os[k]?
  | [], _, _, h => by simp at h
  | o :: r, w, 0, _ => (laysAll_old r (w.alloc o) w.heap.size (by simp)).trans (by rw [heap_alloc_new]; rfl)
  | o :: r, w, k + 1, h => by
    have := laysAll_at r (w.alloc o) k (by simpa using h)
    rw [show (w.alloc o).heap.size = w.heap.size + 1 by simp, show w.heap.size + 1 + k = w.heap.size + (k + 1) by omega] at this
    exact this
theorem laysAll_below : ∀ (os : List Obj) (w : World), Below w.heap.size w (laysAll w os)
  | [], w => Below.refl _ _
  | o :: r, w => (Below.new w o).trans ((laysAll_below r (w.alloc o)).mono (by simp))
theorem laysAll_size : ∀ (os : List Obj) (w : World), (laysAll w os).heap.size = w.heap.size + os.length
  | [], _ => rfl
  | o :: r, w => by
    show (laysAll (w.alloc o) r).heap.size = _
    rw [laysAll_size r, List.length_cons]; simp; omega
theorem words_any (w : World) : Calls Tryd.prog 38 #[] w fun e w' => e = .returned (.slice (some ⟨w.heap.size, 0, none⟩) 8 8) ∧ w' = w.alloc (.cells (u32s iv) 64) := by
  go_enter Tryd.func38, Tryd.ntmps38
  go_wp2_with (fail)
  go_ret
  exact ⟨rfl, rfl⟩
def intsO (ns : List Nat) : Obj := .cells (ns.map fun n : Nat => Value.int .i64 (n : Int)).toArray 3
def rowObjs (w : World) : List Obj := ((List.range 10).map fun i => intsO ((List.range 16).map (rowV i))) ++ [.cells ((List.range 10).map fun k => Value.slice (some ⟨w.heap.size + k, 0, none⟩) 16 16).toArray 75]
theorem rowObjs_at (w : World) (k : Nat) (hk : k < 10) : (rowObjs w)[k]? = some (intsO ((List.range 16).map (rowV k))) := by
  unfold rowObjs
  rw [List.getElem?_append_left (by simpa using hk)]
  simp [hk]
theorem rowObjs_len (w : World) : (rowObjs w).length = 11 := by simp [rowObjs]
theorem ints_cell {w : World} {g : Nat} {ns : List Nat} (h : w.heap[g]? = some (intsO ns)) (j : Nat) (hj : j < ns.length) : w.cell? ⟨g, j, none⟩ = some (.int .i64 ((ns[j]?.getD 0 : Nat) : Int)) := by
  rw [cell_of_row w g j _ 3 (0, 0) h]
  simp [hj]
/-- The row of a round, in memory. -/
def RowAt (w : World) (g k : Nat) : Prop := ∀ j, j < 16 → w.cell? ⟨g, j, none⟩ = some (.int .i64 ((rowV k j : Nat) : Int))
set_option maxRecDepth 100000 in
set_option maxHeartbeats 8000000 in
theorem row_any (w : World) (k : Nat) (hk : k < 10) : Calls Tryd.prog 49 #[.int .i64 k] w fun e w' => (∃ g, e = .returned (.slice (some ⟨g, 0, none⟩) 16 16) ∧ w.heap.size ≤ g ∧ g < w'.heap.size ∧ RowAt w' g k) ∧ Below w.heap.size w w' := by
  have fin : (w.heap.size ≤ w.heap.size + k ∧ w.heap.size + k < (laysAll w (rowObjs w)).heap.size ∧ RowAt (laysAll w (rowObjs w)) (w.heap.size + k) k) ∧ Below w.heap.size w (laysAll w (rowObjs w)) := by
    refine ⟨⟨by omega, by rw [laysAll_size, rowObjs_len]; omega, fun j hj => ?_⟩, laysAll_below _ _⟩
    have h := laysAll_at (rowObjs w) w k (by rw [rowObjs_len]; omega)
    rw [rowObjs_at w k hk] at h
    rw [ints_cell h j (by simpa using hj)]
    simp [hj]
  have FIN := Lib.hid fin
  clear fin
  match k, hk with
  | 0, _ =>
    go_enter Tryd.func49, Tryd.ntmps49
    go_wp2_with (fail)
    go_ret
    exact ⟨⟨w.heap.size + 0, rfl, FIN.out.1⟩, FIN.out.2⟩
  | 1, _ =>
    go_enter Tryd.func49, Tryd.ntmps49
    go_wp2_with (fail)
    go_ret
    exact ⟨⟨w.heap.size + 1, rfl, FIN.out.1⟩, FIN.out.2⟩
  | 2, _ =>
    go_enter Tryd.func49, Tryd.ntmps49
    go_wp2_with (fail)
    go_ret
    exact ⟨⟨w.heap.size + 2, rfl, FIN.out.1⟩, FIN.out.2⟩
  | 3, _ =>
    go_enter Tryd.func49, Tryd.ntmps49
    go_wp2_with (fail)
    go_ret
    exact ⟨⟨w.heap.size + 3, rfl, FIN.out.1⟩, FIN.out.2⟩
  | 4, _ =>
    go_enter Tryd.func49, Tryd.ntmps49
    go_wp2_with (fail)
    go_ret
    exact ⟨⟨w.heap.size + 4, rfl, FIN.out.1⟩, FIN.out.2⟩
  | 5, _ =>
    go_enter Tryd.func49, Tryd.ntmps49
    go_wp2_with (fail)
    go_ret
    exact ⟨⟨w.heap.size + 5, rfl, FIN.out.1⟩, FIN.out.2⟩
  | 6, _ =>
    go_enter Tryd.func49, Tryd.ntmps49
    go_wp2_with (fail)
    go_ret
    exact ⟨⟨w.heap.size + 6, rfl, FIN.out.1⟩, FIN.out.2⟩
  | 7, _ =>
    go_enter Tryd.func49, Tryd.ntmps49
    go_wp2_with (fail)
    go_ret
    exact ⟨⟨w.heap.size + 7, rfl, FIN.out.1⟩, FIN.out.2⟩
  | 8, _ =>
    go_enter Tryd.func49, Tryd.ntmps49
    go_wp2_with (fail)
    go_ret
    exact ⟨⟨w.heap.size + 8, rfl, FIN.out.1⟩, FIN.out.2⟩
  | 9, _ =>
    go_enter Tryd.func49, Tryd.ntmps49
    go_wp2_with (fail)
    go_ret
    exact ⟨⟨w.heap.size + 9, rfl, FIN.out.1⟩, FIN.out.2⟩
set_option maxHeartbeats 2000000 in
theorem lane_any (w : World) (i : Nat) (hi : i < 8) : Calls Tryd.prog 51 #[.int .i64 i] w fun e w' => e = .returned (.slice (some ⟨w.heap.size, 0, none⟩) 4 4) ∧ w' = w.alloc (intsO [la i, lb i, lc i, ld i]) := by
  match i, hi with
  | 0, _ =>
    go_enter Tryd.func51, Tryd.ntmps51
    go_wp2_with (fail)
    go_ret
    exact ⟨rfl, rfl⟩
  | 1, _ =>
    go_enter Tryd.func51, Tryd.ntmps51
    go_wp2_with (fail)
    go_ret
    exact ⟨rfl, rfl⟩
  | 2, _ =>
    go_enter Tryd.func51, Tryd.ntmps51
    go_wp2_with (fail)
    go_ret
    exact ⟨rfl, rfl⟩
  | 3, _ =>
    go_enter Tryd.func51, Tryd.ntmps51
    go_wp2_with (fail)
    go_ret
    exact ⟨rfl, rfl⟩
  | 4, _ =>
    go_enter Tryd.func51, Tryd.ntmps51
    go_wp2_with (fail)
    go_ret
    exact ⟨rfl, rfl⟩
  | 5, _ =>
    go_enter Tryd.func51, Tryd.ntmps51
    go_wp2_with (fail)
    go_ret
    exact ⟨rfl, rfl⟩
  | 6, _ =>
    go_enter Tryd.func51, Tryd.ntmps51
    go_wp2_with (fail)
    go_ret
    exact ⟨rfl, rfl⟩
  | 7, _ =>
    go_enter Tryd.func51, Tryd.ntmps51
    go_wp2_with (fail)
    go_ret
    exact ⟨rfl, rfl⟩
end Go.Proofs.YtdjfklllfbenjaaDoor
