/- Lists of values and of calls among the arguments. -/
import Derived.Test.YtocdjieaphkbdaaWz
import Derived.Test.YtocdjieaphkbdaaWx0
namespace Go.Proofs.Ytocdjieaphkbdaa
open Go.Joins Go.Deep Go.ChangeShapes Go.WideShapes Go.ChangeAt Go.RowKit

theorem cellsWVal : Try.prog.cellsOf 35 = 4 := by kernel_rfl
theorem cellsBytes : Try.prog.cellsOf 28 = 1 := by kernel_rfl
theorem cellsInts : Try.prog.cellsOf 33 = 1 := by kernel_rfl
section
variable {H : Type} {enc : TypeId × Value → H}
set_option maxRecDepth 100000 in
theorem open_vals {W : World} {base : Nat} {v : Value} {d : DataW H} {p : List MemPlace} (hv : Value.okWide Try.prog W .any base 22 v) (h : DataW.Trod enc Try.prog W 0 (fun _ => true) true 22 v d p) :
    ∃ A n c vl, v = .slice A n c ∧ ValsAt W (fun _ => True) A n vl := by
  obtain ⟨A, n, c, rfl⟩ := okWide_slice Try.underlying22 hv
  obtain ⟨fuel, hf⟩ := h
  rcases open_slice Try.underlying22 hf with ⟨e, -⟩ | ⟨a, len, cap, m, n', D, Pl, e, hb, hl, hm, hmm, -, hx⟩
  · simp only [Value.cells, List.cons.injEq, and_true] at e
    obtain ⟨rfl, rfl, rfl⟩ : A = none ∧ n = 0 ∧ c = 0 := by simpa using e
    exact ⟨none, 0, 0, fun _ => ⟨0, 0, .nilIface, [], .nilIface, []⟩, rfl, fun i hi => by omega⟩
  · obtain ⟨rfl, rfl, rfl⟩ : A = some a ∧ n = len ∧ c = cap := by simpa [Value.cells] using e
    have hle : n ≤ m := by rw [hmm]; simpa using hl
    have hspot : 0 < n → a.spot = none := fun h0 => by
      obtain ⟨cs0, h10, -⟩ := hx 0 (by omega)
      rw [cellsWVal] at h10
      obtain ⟨_, hl0, hc0⟩ := World.cells?_some h10
      have q := hc0 0 (by omega)
      obtain ⟨v0, hv0⟩ : ∃ v0, cs0[0]? = some v0 := ⟨cs0[0], List.getElem?_eq_getElem (by omega)⟩
      rw [hv0] at q
      have := World.cell?_spot q
      simpa [Addr.add] using this
    have hall : ∀ i, i < n → ∃ x : WV, ∃ b o, some a = some (⟨b, o, none⟩ : Addr) ∧ b < W.heap.size ∧ ValAt W (fun _ => True) b (o + 4 * i) x := by
      intro i hi
      obtain ⟨cs', h1, h2⟩ := hx i (by omega)
      rw [cellsWVal] at h1
      obtain ⟨_, hlen, hcell⟩ := World.cells?_some h1
      obtain ⟨xs, k, hk, hxy, _, hxl, hfd⟩ := DataW.trod_struct Try.underlying35 h2
      have hxl4 : xs.length = 4 := hxl
      match xs, hxl4, cs', hlen with
      | [y0, y1, y2, y3], _, [v0, v1, v2, v3], _ =>
        have g0 := hfd 0 _ rfl
        have g1 := hfd 1 _ rfl
        have g2 := hfd 2 _ rfl
        have g3 := hfd 3 _ rfl
        simp only [List.getElem_toArray, List.getElem_cons_zero, List.getElem_cons_succ, cellsU8, cellsI, cellsBytes, cellsInts, List.drop_zero, List.drop_succ_cons, List.take_succ_cons, List.take_zero, List.getElem?_cons_zero, List.getElem?_cons_succ] at g0 g1 g2 g3
        obtain ⟨z0, e0, -, w0⟩ := DataW.trod_int Try.underlying5 g0
        obtain ⟨z1, e1, -, w1⟩ := DataW.trod_int Try.underlying3 g1
        obtain ⟨ts, r2, b2⟩ := rw_of_trod Try.underlying28 Try.underlying5 cellsU8 g2
        obtain ⟨ls, r3, b3⟩ := rw_of_trod Try.underlying33 Try.underlying3 cellsI g3
        simp only [List.cons.injEq, and_true] at e0 e1
        subst e0 e1
        simp only [Lit.wf, Bool.and_eq_true, decide_eq_true_eq] at w0 w1
        rw [show IntKind.u8.min = 0 by decide, show IntKind.u8.max = 255 by decide] at w0
        rw [show IntKind.i64.min = -9223372036854775808 by decide, show IntKind.i64.max = 9223372036854775807 by decide] at w1
        have q0 := hcell 0 (by omega)
        have q1 := hcell 1 (by omega)
        have q2 := hcell 2 (by omega)
        have q3 := hcell 3 (by omega)
        have hs0 := hspot (by omega)
        have hlt := block_lt_of_cell q0
        obtain ⟨b, o, spot⟩ := a
        have hsp : spot = none := hs0
        subst hsp
        simp only [Addr.add_mid, List.getElem?_cons_zero, List.getElem?_cons_succ, Nat.add_zero] at q0 q1 q2 q3 hlt
        refine ⟨⟨z0.toNat, z1, v2, ts, v3, ls⟩, b, o, rfl, hlt, ?_, ?_, ?_, ?_, r2, r3, by show z0.toNat < 256; omega, w1, fun z hz => ?_, fun z hz => ?_⟩
        · rw [show o + 4 * i = o + i * 4 by omega, q0]; show _ = some (Value.int .u8 (z0.toNat : Int)); rw [Int.toNat_of_nonneg w0.1]
        · rw [show o + 4 * i + 1 = o + i * 4 + 1 by omega, q1]
        · rw [show o + 4 * i + 2 = o + i * 4 + 2 by omega, q2]
        · rw [show o + 4 * i + 3 = o + i * 4 + 3 by omega, q3]
        · have := b2 z hz
          rw [show IntKind.u8.min = 0 by decide, show IntKind.u8.max = 255 by decide] at this
          exact ⟨this.1, by omega⟩
        · have := b3 z hz
          rw [show IntKind.i64.min = -9223372036854775808 by decide, show IntKind.i64.max = 9223372036854775807 by decide] at this
          exact this
    refine ⟨some a, n, c, fun i => if h : i < n then Classical.choose (hall i h) else ⟨0, 0, .nilIface, [], .nilIface, []⟩, rfl, fun i hi => ?_⟩
    have := Classical.choose_spec (hall i hi)
    simp only [hi, dite_true]
    exact this
end
end Go.Proofs.Ytocdjieaphkbdaa
