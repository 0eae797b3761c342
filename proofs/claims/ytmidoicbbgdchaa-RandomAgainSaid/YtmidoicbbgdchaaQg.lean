/- Rows of ints: append, and law03's equal. -/
import Derived.Test.YtmidoicbbgdchaaQe
namespace Go.Proofs.Ytmidoicbbgdchaa
open Go.RowKit

theorem appI {ops : Array Oper} {rest : List Oper} {o : Oper} {a : Act} {Q : Exit → Act → World → Prop} {w W : World} {B : Nat} {v : Value} {ds : List Int}
    (hgd : o.guard = none) (s x : Operand) (T : TypeId) (ho : o.op = .call { callee := .builtin .append, args := #[s, x], argTypes := #[T, T] }) (hT : Try.prog.underlying T = some (.slice 3))
    (hs : a.eval s = v) (hown : OwnI w B v ds) (hb : Below B W w) (hB : B ≤ w.heap.size) (g : Nat) (y : Int) (hx : a.eval x = .slice (some ⟨g, 0, none⟩) 1 1) (hy : w.cell? ⟨g, 0, none⟩ = some (.int .i64 y))
    (hn : ds.length < 1000000000000) (h : ∀ v' w', OwnI w' B v' (ds ++ [y]) → Below B W w' → wpList Try.prog ops Q rest (a.put o.dst v') w') : wpList Try.prog ops Q (o :: rest) a w := by
  obtain ⟨i0, hi, hz0, hz1, hz2⟩ := info_parts infoI64
  refine wpList_append_own w hgd s x T ho B 3 i0 (.int .i64 0) 1 8 hT hi hz0 hz1 hz2 rfl (by decide) v ds.length _ hs hown ⟨g, 0, none⟩ 1 1 [.int .i64 y] hx rfl ?_ ?_ ?_ ?_ hB ?_
  · intro j u hj
    match j, hj with
    | 0, hj => simp at hj; subst hj; simpa [Addr.add] using hy
  · intro u hu; simp at hu; subst hu; rfl
  · unfold maxLen; omega
  · omega
  · intro v' w' h1 h2 _
    refine h v' w' ?_ ?_
    · unfold OwnI
      simpa using h1
    · exact hb.grown h2 hB fun k hk => (World.ownsRow.lt hown k hk).1
theorem OwnI.nil_ {w : World} {B : Nat} : OwnI w B (.slice none 0 0) [] := World.ownsRow_nil _ _ _ _
theorem OwnI.less {w : World} {B B' : Nat} {v : Value} {ds : List Int} (h : OwnI w B v ds) (hB : B' ≤ B) : OwnI w B' v ds := by
  refine ⟨h.1, ?_⟩
  rcases h.2 with h2 | ⟨g, cap, cur, e, hb, r⟩
  · exact .inl h2
  · exact .inr ⟨g, cap, cur, e, by omega, r⟩
/-- What it looks like. -/
theorem OwnI.form {w : World} {B : Nat} {v : Value} {ds : List Int} (h : OwnI w B v ds) : ∃ A c, v = .slice A ds.length c ∧ (0 < ds.length → ∃ g, A = some ⟨g, 0, none⟩ ∧ B ≤ g ∧ g < w.heap.size ∧ OwnI w B (.slice (some ⟨g, 0, none⟩) ds.length c) ds) := by
  rcases id h.2 with ⟨rfl, h0⟩ | ⟨g, cap, cur, rfl, hb, hg, r⟩
  · have : ds = [] := List.eq_nil_of_length_eq_zero h0
    subst this
    exact ⟨none, 0, rfl, fun h => by simp at h⟩
  · exact ⟨_, cap, rfl, fun _ => ⟨g, rfl, hb, (Array.getElem?_eq_some_iff.1 hg).1, h⟩⟩
/-- Another block has changed. -/
theorem OwnI.but {w w' : World} {B p : Nat} {v : Value} {ds : List Int} (h : OwnI w B v ds) (hb : But p w w') (hp : p < B) : OwnI w' B v ds := by
  refine ⟨h.1, ?_⟩
  rcases h.2 with h2 | ⟨g, cap, cur, e, hB, hg, r⟩
  · exact .inl h2
  · exact .inr ⟨g, cap, cur, e, hB, (hb.block g (by omega) (Array.getElem?_eq_some_iff.1 hg).1).trans hg, r⟩
set_option maxRecDepth 100000 in
theorem equal_any {w : World} {B B' : Nat} {x y : Value} {ds : List Int} (hx : OwnI w B x ds) (hy : OwnI w B' y ds) (hn : ds.length < 10000) :
    Calls Try.prog 14 #[x, y] w fun e w' => e = .returned (.bool true) ∧ ∃ k, w' = w.drewN k := by
  obtain ⟨A, c, rfl, h1⟩ := hx.form
  obtain ⟨A', c', rfl, h2⟩ := hy.form
  have H1 := Lib.hid h1
  have H2 := Lib.hid h2
  clear hx hy h1 h2
  obtain ⟨n, hl⟩ : ∃ n, n = ds.length := ⟨_, rfl⟩
  rw [← hl] at H1 H2 hn ⊢
  have HL := Lib.hid hl
  clear hl
  go_enter Try.func14, Try.ntmps14
  go_wp2_with (fail)
  go_loopw [5] (fun i wr => ∃ k : Nat, k ≤ n ∧ i = .int .i64 k ∧ ∃ q, wr = w.drewN q) (fun i _ => n - (intOf i).toNat)
  case atStart => exact ⟨0, by omega, rfl, 0, rfl⟩
  case round =>
    obtain ⟨k, hk, rfl, q, rfl⟩ := hrel
    by_cases gk : k < n
    · have gI : (k : Int) < (n : Int) := by omega
      obtain ⟨g, rfl, -, -, o1⟩ := H1.out (by omega)
      obtain ⟨g', rfl, -, -, o2⟩ := H2.out (by omega)
      have c1 := o1.cellAt (j := k) (by rw [← HL.out]; exact gk)
      have c2 := o2.cellAt (j := k) (by rw [← HL.out]; exact gk)
      generalize ds[k]?.getD 0 = xk at *
      clear o1 o2
      go_wp2_with (fail)
      go_region
      all_goals
        go_wp2_with (fail)
        go_roundw
        case rel => exact ⟨k + 1, by omega, by go_num, q + 1, rfl⟩
        case measure => simp [intOf]; omega
    · obtain rfl : k = n := by omega
      go_wp2_with (fail)
      go_ret
      exact ⟨rfl, q, rfl⟩
end Go.Proofs.Ytmidoicbbgdchaa
