/- Package random without a source: Numbers. -/
import Derived.Test.YtmidoicbbgdchaaQk
namespace Go.Proofs.Ytmidoicbbgdchaa
open Go.RowKit

theorem NoSrc.below {w w' : World} {v : Value} (h : NoSrc w v) (hb : Below w.heap.size w w') : NoSrc w' v := by
  rcases h with rfl | ⟨p, rfl, c1⟩
  · exact .inl rfl
  · refine .inr ⟨p, rfl, ?_⟩
    have hlt : p < w.heap.size := by
      rcases Nat.lt_or_ge p w.heap.size with hl | hl
      · exact hl
      · have e : w.heap[p]? = none := Array.getElem?_eq_none hl
        unfold World.cell? at c1
        rw [e] at c1
        simp at c1
    exact (hb.cell (p := ⟨p, 1, none⟩) hlt).trans c1
theorem two_new (w : World) (T U : TypeId) (a b : Value) : ((w.alloc (.cells #[a] T)).alloc (.cells #[b] U)).cell? ⟨w.heap.size + 1, 0, none⟩ = some b ∧ ((w.alloc (.cells #[a] T)).alloc (.cells #[b] U)).cell? ⟨w.heap.size, 0, none⟩ = some a ∧
    ((w.alloc (.cells #[a] T)).alloc (.cells #[b] U)).heap.size = w.heap.size + 2 ∧ Below w.heap.size w ((w.alloc (.cells #[a] T)).alloc (.cells #[b] U)) := by
  have h1 : (w.alloc (.cells #[a] T)).heap[w.heap.size]? = some (.cells #[a] T (0, 0)) := heap_alloc_new w _
  have hs : (w.alloc (.cells #[a] T)).heap.size = w.heap.size + 1 := by simp
  have h2 : ((w.alloc (.cells #[a] T)).alloc (.cells #[b] U)).heap[w.heap.size + 1]? = some (.cells #[b] U (0, 0)) := by
    have := heap_alloc_new (w.alloc (.cells #[a] T)) (.cells #[b] U)
    rwa [hs] at this
  have h3 : ((w.alloc (.cells #[a] T)).alloc (.cells #[b] U)).heap[w.heap.size]? = some (.cells #[a] T (0, 0)) := (Below.heap_alloc _ _ _ (by omega)).trans h1
  refine ⟨by rw [cell_of_row _ _ 0 _ U (0, 0) h2]; rfl, by rw [cell_of_row _ _ 0 _ T (0, 0) h3]; rfl, by simp, ?_⟩
  exact ((Below.refl w.heap.size w).alloc (Nat.le_refl _) _).alloc (by simp) _
/-- Numbers lays the limit and the copy, which is nil, and hands back the iterator over both. -/
theorem numbersNo {w : World} {v : Value} (n : Int) (h : NoSrc w v) : Calls Try.prog 17 #[v, .int .i64 n] w fun e w' => e = .returned (.func (.func 25) #[] #[.pointer (some ⟨w.heap.size + 1, 0, none⟩), .pointer (some ⟨w.heap.size, 0, none⟩)]) ∧
    w'.cell? ⟨w.heap.size + 1, 0, none⟩ = some (.pointer none) ∧ w'.cell? ⟨w.heap.size, 0, none⟩ = some (.int .i64 n) ∧ w'.heap.size = w.heap.size + 2 ∧ Below w.heap.size w w' := by
  have HC := Lib.hid (copyNo (h.below (Below.new w (.cells #[.int .i64 n] 3))))
  have HB := Lib.hid (Below.new w (.cells #[.int .i64 n] 3))
  clear h
  go_enter Try.func17, Try.ntmps17
  go_wp2_with (fail)
  refine HC.out.mono ?_
  rintro e w1 ⟨rfl, rfl⟩
  go_wp2_with (fail)
  go_ret
  exact ⟨rfl, two_new w _ _ _ _⟩
end Go.Proofs.Ytmidoicbbgdchaa
