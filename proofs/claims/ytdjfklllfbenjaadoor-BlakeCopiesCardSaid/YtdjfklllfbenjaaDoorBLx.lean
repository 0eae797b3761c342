/- Bytes among the arguments, nil without room. -/
import Derived.Test.YtdjfklllfbenjaaDoorBLw
namespace Go.Proofs.YtdjfklllfbenjaaDoor
open Go.Joins Go.Deep Go.ChangeShapes Go.WideShapes Go.ChangeAt Go.RowKit

/-! ### Bytes among the arguments -/
section
variable {H : Type} {enc : TypeId × Value → H}
theorem open_bytes0 {W : World} {base : Nat} {v : Value} {d : DataW H} {p : List MemPlace} (hv : Value.okWide Tryd.prog W .any base 22 v) (h : DataW.Trod enc Tryd.prog W 0 (fun _ => true) true 22 v d p) :
    ∃ A n c ds, v = .slice A n c ∧ ds.length = n ∧ PartAt W W.heap.size (.slice A n c) ds ∧ (∀ x ∈ ds, 0 ≤ x ∧ x < (256 : Int)) ∧ (A = none → c = 0) := by
  obtain ⟨A, n, c, rfl⟩ := okWide_slice Tryd.underlying22 hv
  obtain ⟨fuel, hf⟩ := h
  rcases open_ints Tryd.underlying22 Tryd.underlying5 cellsU8 hf with ⟨e, -⟩ | ⟨a, len, cap, zs, e, -, hl, hm, hz, -, hc, hw⟩
  · simp only [Value.cells, List.cons.injEq, and_true] at e
    obtain ⟨rfl, rfl, rfl⟩ : A = none ∧ n = 0 ∧ c = 0 := by simpa using e
    exact ⟨none, 0, 0, [], rfl, rfl, PartAt.nil_ _ _, fun x hx => by simp at hx, fun _ => rfl⟩
  · obtain ⟨rfl, rfl, rfl⟩ : A = some a ∧ n = len ∧ c = cap := by simpa [Value.cells] using e
    have hlz : n ≤ zs.length := by rw [hz]; simpa using hl
    have hb : ∀ x ∈ zs.take n, 0 ≤ x ∧ x < (256 : Int) := fun x hx => by
      have := hw x (List.mem_of_mem_take hx)
      simp only [Lit.wf, Bool.and_eq_true, decide_eq_true_eq] at this
      rw [show IntKind.u8.min = 0 by decide, show IntKind.u8.max = 255 by decide] at this
      exact ⟨this.1, by omega⟩
    have hn : (zs.take n).length = n := by simp [hlz]
    refine ⟨some a, n, c, zs.take n, rfl, hn, ⟨some a, c, by rw [hn], by rw [hn]; exact hl, fun h0 => ?_⟩, hb, fun e => by cases e⟩
    rw [hn] at h0
    have c0 := hc 0 (by omega)
    have hs0 := World.cell?_spot c0
    have hlt := block_lt_of_cell c0
    obtain ⟨b, o, spot⟩ := a
    have hsp : spot = none := by simpa [Addr.add] using hs0
    subst hsp
    have hlt : b < W.heap.size := by simpa [Addr.add] using hlt
    refine ⟨b, o, rfl, by omega, hlt, fun k hk => ?_⟩
    rw [hn] at hk
    have := hc k (by omega)
    rw [Addr.add_mid] at this
    rw [this]
    unfold at_
    congr 2
    rw [List.getElem?_take_of_lt hk, List.getD_eq_getElem?_getD]
end
end Go.Proofs.YtdjfklllfbenjaaDoor
