/- Conversions of bytes back to strings; an empty row. -/
import Derived.Test.YtdjfklllfbenjaaDoorBs0
import Derived.Laws.BytesArg
namespace Go.Proofs.YtdjfklllfbenjaaDoor
open Go.RowKit

/-- string(b) of bytes that lie anywhere. -/
theorem conv_part {w : World} {p : Nat} {v : Value} {ds : List Int} (h : PartAt w p v ds) : (convert 22 9 v).run Tryd.prog w = .ok (.string (strOfNums ds)) w := by
  obtain ⟨A, c, rfl, hle, hA⟩ := h
  rcases Nat.eq_zero_or_pos ds.length with h0 | h0
  · have e : ds = [] := List.eq_nil_of_length_eq_zero h0
    subst e
    rw [run_convert_bytes_string w 22 9 5 A _ c Tryd.underlying22 Tryd.underlying5 Tryd.underlying9]
    cases A <;> simp [Conv.bytesToString, loadCells]
    all_goals rfl
  · obtain ⟨b, o, rfl, -, -, hc⟩ := hA h0
    refine run_convert_bytes_arg w 22 5 Tryd.underlying22 Tryd.underlying5 b o ds.length c ds rfl (fun i hi => ?_) 9 Tryd.underlying9
    rw [hc i hi]
    simp [at_, hi]
theorem Own.new0 (w : World) : Own (w.alloc (.cells #[] 5)) w.heap.size (.slice (some ⟨w.heap.size, 0, none⟩) 0 0) [] := by
  refine ⟨rfl, .inr ⟨w.heap.size, 0, #[], rfl, Nat.le_refl _, heap_alloc_new w _, ?_, ?_, ?_, ?_⟩⟩ <;> first | decide | rfl | (simp; done)
end Go.Proofs.YtdjfklllfbenjaaDoor
