/- Lists of calls among the arguments. -/
import Derived.Test.YtocdjieaphkbdaaWz
import Derived.Test.YtocdjieaphkbdaaYb0
namespace Go.Proofs.Ytocdjieaphkbdaa
open Go.Joins Go.Deep Go.ChangeShapes Go.WideShapes Go.ChangeAt Go.RowKit

theorem cellsWAct : Try.prog.cellsOf 44 = 2 := by kernel_rfl
section
variable {H : Type} {enc : TypeId × Value → H}
set_option maxRecDepth 100000 in
theorem open_acts {W : World} {base : Nat} {v : Value} {d : DataW H} {p : List MemPlace} (hv : Value.okWide Try.prog W .any base 40 v) (h : DataW.Trod enc Try.prog W 0 (fun _ => true) true 40 v d p) :
    ∃ A n c al, v = .slice A n c ∧ ActsAt W A n al := by
  obtain ⟨A, n, c, rfl⟩ := okWide_slice Try.underlying40 hv
  obtain ⟨fuel, hf⟩ := h
  rcases open_slice Try.underlying40 hf with ⟨e, -⟩ | ⟨a, len, cap, m, n', D, Pl, e, hb, hl, hm, hmm, -, hx⟩
  · simp only [Value.cells, List.cons.injEq, and_true] at e
    obtain ⟨rfl, rfl, rfl⟩ : A = none ∧ n = 0 ∧ c = 0 := by simpa using e
    exact ⟨none, 0, 0, fun _ => (0, 0), rfl, fun i hi => by omega⟩
  · obtain ⟨rfl, rfl, rfl⟩ : A = some a ∧ n = len ∧ c = cap := by simpa [Value.cells] using e
    have hle : n ≤ m := by rw [hmm]; simpa using hl
    have hspot : 0 < n → a.spot = none := fun h0 => by
      obtain ⟨cs0, h10, -⟩ := hx 0 (by omega)
      rw [cellsWAct] at h10
      obtain ⟨_, hl0, hc0⟩ := World.cells?_some h10
      have q := hc0 0 (by omega)
      obtain ⟨v0, hv0⟩ : ∃ v0, cs0[0]? = some v0 := ⟨cs0[0], List.getElem?_eq_getElem (by omega)⟩
      rw [hv0] at q
      have := World.cell?_spot q
      simpa [Addr.add] using this
    have hall : ∀ i, i < n → ∃ x : Nat × Int, ∃ b o, some a = some (⟨b, o, none⟩ : Addr) ∧ b < W.heap.size ∧ W.cell? ⟨b, o + 2 * i, none⟩ = some (.int .u8 x.1) ∧ W.cell? ⟨b, o + 2 * i + 1, none⟩ = some (.int .i64 x.2) ∧ x.1 < 256 ∧ -9223372036854775808 ≤ x.2 ∧ x.2 ≤ 9223372036854775807 := by
      intro i hi
      obtain ⟨cs', h1, h2⟩ := hx i (by omega)
      rw [cellsWAct] at h1
      obtain ⟨_, hlen, hcell⟩ := World.cells?_some h1
      obtain ⟨xs, k, hk, hxy, _, hxl, hfd⟩ := DataW.trod_struct Try.underlying44 h2
      have hxl2 : xs.length = 2 := hxl
      match xs, hxl2, cs', hlen with
      | [y0, y1], _, [v0, v1], _ =>
        have g0 := hfd 0 _ rfl
        have g1 := hfd 1 _ rfl
        simp only [List.getElem_toArray, List.getElem_cons_zero, List.getElem_cons_succ, cellsU8, cellsI, List.drop_zero, List.drop_succ_cons, List.take_succ_cons, List.take_zero, List.getElem?_cons_zero, List.getElem?_cons_succ] at g0 g1
        obtain ⟨z0, e0, -, w0⟩ := DataW.trod_int Try.underlying5 g0
        obtain ⟨z1, e1, -, w1⟩ := DataW.trod_int Try.underlying3 g1
        simp only [List.cons.injEq, and_true] at e0 e1
        subst e0 e1
        simp only [Lit.wf, Bool.and_eq_true, decide_eq_true_eq] at w0 w1
        rw [show IntKind.u8.min = 0 by decide, show IntKind.u8.max = 255 by decide] at w0
        rw [show IntKind.i64.min = -9223372036854775808 by decide, show IntKind.i64.max = 9223372036854775807 by decide] at w1
        have q0 := hcell 0 (by omega)
        have q1 := hcell 1 (by omega)
        have hs0 := hspot (by omega)
        have hlt := block_lt_of_cell q0
        obtain ⟨b, o, spot⟩ := a
        have hsp : spot = none := hs0
        subst hsp
        simp only [Addr.add_mid, List.getElem?_cons_zero, List.getElem?_cons_succ, Nat.add_zero] at q0 q1 hlt
        refine ⟨(z0.toNat, z1), b, o, rfl, hlt, ?_, ?_, by show z0.toNat < 256; omega, w1⟩
        · rw [show o + 2 * i = o + i * 2 by omega, q0]; show _ = some (Value.int .u8 (z0.toNat : Int)); rw [Int.toNat_of_nonneg w0.1]
        · rw [show o + 2 * i + 1 = o + i * 2 + 1 by omega, q1]
    refine ⟨some a, n, c, fun i => if h : i < n then Classical.choose (hall i h) else (0, 0), rfl, fun i hi => ?_⟩
    have := Classical.choose_spec (hall i hi)
    simp only [hi, dite_true]
    exact this
end
end Go.Proofs.Ytocdjieaphkbdaa
