/- Lists of bytes among the arguments. -/
import Derived.Test.YtdjfklllfbenjaaDoorBLx
import Derived.Test.YtdjfklllfbenjaaDoorBy
import Derived.Deep.Slices
namespace Go.Proofs.YtdjfklllfbenjaaDoor
open Go.Joins Go.Deep Go.ChangeShapes Go.WideShapes Go.ChangeAt Go.RowKit

theorem cellsBytes : Tryd.prog.cellsOf 22 = 1 := by kernel_rfl
section
variable {H : Type} {enc : TypeId × Value → H}
theorem bytes_of_trod {W : World} {fuel : Nat} {x : Value} {d : DataW H × List MemPlace} (hf : DataW.trod enc Tryd.prog W 0 (fun _ => true) true fuel 22 [x] = some d) :
    ∃ A n c ds, x = .slice A n c ∧ ds.length = n ∧ PartAt W W.heap.size (.slice A n c) ds ∧ (A = none → c = 0) := by
  rcases open_ints Tryd.underlying22 Tryd.underlying5 cellsU8 hf with ⟨e, -⟩ | ⟨a, len, cap, zs, e, -, hl, hm, hz, -, hc, hw⟩
  · simp only [List.cons.injEq, and_true] at e
    subst e
    exact ⟨none, 0, 0, [], rfl, rfl, PartAt.nil_ _ _, fun _ => rfl⟩
  · simp only [List.cons.injEq, and_true] at e
    subst e
    have hlz : len ≤ zs.length := by rw [hz]; simpa using hl
    have hn : (zs.take len).length = len := by simp [hlz]
    refine ⟨some a, len, cap, zs.take len, rfl, hn, ⟨some a, cap, by rw [hn], by rw [hn]; exact hl, fun h0 => ?_⟩, fun e => by cases e⟩
    rw [hn] at h0
    have c0 := hc 0 (by omega)
    have hs0 := World.cell?_spot c0
    have hlt := block_lt_of_cell c0
    obtain ⟨b, o, spot⟩ := a
    have hsp : spot = none := by simpa [Addr.add] using hs0
    subst hsp
    have hlt : b < W.heap.size := by simpa [Addr.add] using hlt
    refine ⟨b, o, rfl, by omega, hlt, fun k hk => ?_⟩
    rw [hn] at hk
    have := hc k (by omega)
    rw [Addr.add_mid] at this
    rw [this]
    unfold at_
    congr 2
    rw [List.getElem?_take_of_lt hk, List.getD_eq_getElem?_getD]
theorem open_parts {W : World} {base : Nat} {v : Value} {d : DataW H} {p : List MemPlace} (hv : Value.okWide Tryd.prog W .any base 37 v) (h : DataW.Trod enc Tryd.prog W 0 (fun _ => true) true 37 v d p) :
    ∃ A n c pl, v = .slice A n c ∧ PartsAt W A n pl := by
  obtain ⟨A, n, c, rfl⟩ := okWide_slice Tryd.underlying37 hv
  obtain ⟨fuel, hf⟩ := h
  rcases open_slice1 Tryd.underlying37 cellsBytes hf with ⟨e, -⟩ | ⟨a, len, cap, m, n', V, D, Pl, e, hb, hl, hm, hmm, -, hx⟩
  · simp only [Value.cells, List.cons.injEq, and_true] at e
    obtain ⟨rfl, rfl, rfl⟩ : A = none ∧ n = 0 ∧ c = 0 := by simpa using e
    exact ⟨none, 0, 0, [], rfl, fun i hi => by omega⟩
  · obtain ⟨rfl, rfl, rfl⟩ : A = some a ∧ n = len ∧ c = cap := by simpa [Value.cells] using e
    have hle : n ≤ m := by rw [hmm]; simpa using hl
    have hall : ∀ i, i < n → ∃ ds : List Int, ∃ b o B k c, some a = some (⟨b, o, none⟩ : Addr) ∧ b < W.heap.size ∧ W.cell? ⟨b, o + i, none⟩ = some (.slice B k c) ∧ ds.length = k ∧ PartAt W W.heap.size (.slice B k c) ds ∧ (B = none → c = 0) := by
      intro i hi
      obtain ⟨h1, h2⟩ := hx i (by omega)
      obtain ⟨B, k, c', ds, e1, h3, h4, h5⟩ := bytes_of_trod h2
      have hs0 := World.cell?_spot (hx 0 (by omega)).1
      have hlt := block_lt_of_cell (hx 0 (by omega)).1
      obtain ⟨b, o, spot⟩ := a
      have hsp : spot = none := by simpa [Addr.add] using hs0
      subst hsp
      have hlt : b < W.heap.size := by simpa [Addr.add] using hlt
      rw [Addr.add_mid, e1] at h1
      exact ⟨ds, b, o, B, k, c', rfl, hlt, h1, h3, h4, h5⟩
    refine ⟨some a, n, c, (List.range n).map fun i => if h : i < n then Classical.choose (hall i h) else [], rfl, fun i hi => ?_⟩
    have e2 : el ((List.range n).map fun i => if h : i < n then Classical.choose (hall i h) else []) i = Classical.choose (hall i hi) := by
      unfold el
      simp [hi]
    rw [e2]
    exact Classical.choose_spec (hall i hi)
end
end Go.Proofs.YtdjfklllfbenjaaDoor
