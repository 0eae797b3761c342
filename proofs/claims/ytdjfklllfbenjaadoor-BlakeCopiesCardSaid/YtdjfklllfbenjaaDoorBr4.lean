/- The reference: append of bytes. -/
import Derived.Test.YtdjfklllfbenjaaDoorBq
namespace Go.Proofs.YtdjfklllfbenjaaDoor
open Go.RowKit

/-- What lies elsewhere, of another kind, is as it was. -/
def KeepsT (w w' : World) : Prop := ∀ (g : Nat) (xs : Array Value) (T : TypeId), w.heap[g]? = some (.cells xs T (0, 0)) → T ≠ 5 → w'.heap[g]? = w.heap[g]?
theorem keepsT_of {w w' : World} {B : Nat} {v : Value} {ds : List Int} (hown : Own w B v ds) (h2 : w.grownBy w' v.ownBlock) : KeepsT w w' := by
  intro g xs T hg hT
  refine h2.block g (Array.getElem?_eq_some_iff.1 hg).1 fun e => ?_
  rcases hown.2 with ⟨rfl, _⟩ | ⟨g', cap, cur, rfl, hb, hg', _⟩
  · simp [Value.ownBlock] at e
  · have e1 : g' = g := by simp [Value.ownBlock] at e; exact e.symm
    subst e1
    rw [hg] at hg'
    injection hg' with hg'
    injection hg' with _ e2
    exact hT e2
theorem Own.less {w : World} {B B' : Nat} {v : Value} {ds : List Int} (h : Own w B v ds) (hB : B' ≤ B) : Own w B' v ds := by
  refine ⟨h.1, ?_⟩
  rcases h.2 with h2 | ⟨g, cap, cur, e, hb, r⟩
  · exact .inl h2
  · exact .inr ⟨g, cap, cur, e, Nat.le_trans hB hb, r⟩
/-- append of bytes that lie anywhere. -/
theorem appBs {ops : Array Oper} {rest : List Oper} {o : Oper} {a : Act} {Q : Exit → Act → World → Prop} {w W : World} {B : Nat} {v : Value} {ds : List Int}
    (hgd : o.guard = none) (s x : Operand) (T : TypeId) (ho : o.op = .call { callee := .builtin .append, args := #[s, x], argTypes := #[T, T] }) (hT : Tryd.prog.underlying T = some (.slice 5))
    (hs : a.eval s = v) (hown : Own w B v ds) (hb : Below B W w) (hB : B ≤ w.heap.size) (A : Option Addr) (m c p : Nat) (es : List Int) (hx : a.eval x = .slice A m c) (hA : A = none → c = 0) (hp : PartAt w p (.slice A m c) es) (hm : es.length = m)
    (hn : ds.length + m < 1000000000000) (h : ∀ v' w', Own w' B v' (ds ++ es) → Below B W w' → KeepsT w w' → wpList Tryd.prog ops Q rest (a.put o.dst v') w') : wpList Tryd.prog ops Q (o :: rest) a w := by
  subst hm
  obtain ⟨A', c', e, hle, hpc⟩ := hp
  injection e with e1 _ e3
  subst e1 e3
  obtain ⟨i0, hi, hz0, hz1, hz2⟩ := info_parts infoZU8
  cases A with
  | none =>
    have h0 : es = [] := by
      rcases Nat.eq_zero_or_pos es.length with h0 | h0
      · exact List.eq_nil_of_length_eq_zero h0
      · obtain ⟨_, _, e, _⟩ := hpc h0; cases e
    subst h0
    have hc0 := hA rfl
    subst hc0
    refine wpList_append_own_none hgd s x T ho B 5 i0 1 hT hi v ds.length _ hs hown hx ?_
    rw [← List.append_nil ds] at hown
    exact h v w hown hb (fun _ _ _ _ _ => rfl)
  | some ad =>
    refine wpList_append_own w hgd s x T ho B 5 i0 (.int .u8 0) 1 1 hT hi hz0 hz1 hz2 rfl (by decide) v ds.length _ hs hown ad es.length c (es.map (Value.int .u8)) hx (by simp) ?_ (oneU8 es) ?_ ?_ hB ?_
    · intro j u hj
      have hjl : j < es.length := by have := (List.getElem?_eq_some_iff.1 hj).1; simpa using this
      obtain ⟨b, k, e, -, -, hy⟩ := hpc (by omega)
      injection e with e
      subst e
      rw [Addr.add_mid, hy j hjl, ← hj]
      simp [at_, hjl]
    · unfold maxLen; omega
    · omega
    · intro v' w' h1 h2 _
      refine h v' w' ?_ ?_ (keepsT_of hown h2)
      · unfold Own
        simpa using h1
      · exact hb.grown h2 hB fun k hk => (World.ownsRow.lt hown k hk).1
/-- append of one byte. -/
theorem appB1 {ops : Array Oper} {rest : List Oper} {o : Oper} {a : Act} {Q : Exit → Act → World → Prop} {w W : World} {B : Nat} {v : Value} {ds : List Int}
    (hgd : o.guard = none) (s x : Operand) (T : TypeId) (ho : o.op = .call { callee := .builtin .append, args := #[s, x], argTypes := #[T, T] }) (hT : Tryd.prog.underlying T = some (.slice 5))
    (hs : a.eval s = v) (hown : Own w B v ds) (hb : Below B W w) (hB : B ≤ w.heap.size) (g : Nat) (y : Int) (hx : a.eval x = .slice (some ⟨g, 0, none⟩) 1 1) (hy : w.cell? ⟨g, 0, none⟩ = some (.int .u8 y))
    (hn : ds.length < 100000000000) (h : ∀ v' w', Own w' B v' (ds ++ [y]) → Below B W w' → KeepsT w w' → wpList Tryd.prog ops Q rest (a.put o.dst v') w') : wpList Tryd.prog ops Q (o :: rest) a w :=
  appBs hgd s x T ho hT hs hown hb hB (some ⟨g, 0, none⟩) 1 1 (g + 1) [y] hx (fun e => by cases e) ⟨_, 1, rfl, Nat.le_refl _, fun _ => ⟨g, 0, rfl, by omega, block_lt_of_cell hy, fun k hk => by
    match k, hk with
    | 0, _ => exact hy⟩⟩ rfl (by show ds.length + [y].length < _; rw [List.length_singleton]; omega) h
/-- append of some bytes of the call's own, inside a region that draws its order. -/
theorem stepB4 {ops : Array Oper} {o : Oper} {a : Act} {K : Act → World → Prop} {Q : Exit → Act → World → Prop} {E : Prop} {w W : World} {B : Nat} {v : Value} {ds : List Int}
    (hgd : o.guard = none) (s x : Operand) (T : TypeId) (hop : o.op = Op.call { callee := Callee.builtin Builtin.append, args := #[s, x], argTypes := #[T, T] }) (hT : Tryd.prog.underlying T = some (.slice 5))
    (hs : a.eval s = v) (hown : Own w B v ds) (hb : Below B W w) (hB : B ≤ w.heap.size) (g : Nat) (es : List Int) (m : Nat) (hx : a.eval x = .slice (some ⟨g, 0, none⟩) m m) (hm : es.length = m) (hy : ∀ j, j < es.length → w.cell? ⟨g, j, none⟩ = some (.int .u8 (at_ es j)))
    (hn : ds.length + m < 1000000000000) (hK : ∀ v' w', Own w' B v' (ds ++ es) → Below B W w' → K (a.put o.dst v') w') :
    if Region.wanted o (yielded ops a.tmps) = true then Oper.wp Tryd.prog o a w K Q else E := by
  subst hm
  obtain ⟨i0, hi, hz0, hz1, hz2⟩ := info_parts infoZU8
  have hw : Region.wanted o (yielded ops a.tmps) = true := by simp [Region.wanted, hgd]
  rw [if_pos hw]
  refine wp_append_own w s x T hop B 5 i0 (.int .u8 0) 1 1 hT hi hz0 hz1 hz2 rfl (by decide) v ds.length _ hs hown ⟨g, 0, none⟩ es.length es.length (es.map (Value.int .u8)) hx (by simp) ?_ (oneU8 es) ?_ ?_ hB ?_
  · intro j u hj
    have hjl : j < es.length := by have := (List.getElem?_eq_some_iff.1 hj).1; simpa using this
    rw [Addr.add_mid, Nat.zero_add, hy j hjl, ← hj]
    simp [at_, hjl]
  · unfold maxLen; omega
  · omega
  · intro v' w' h1 h2 _
    refine hK v' w' ?_ ?_
    · unfold Own
      simpa using h1
    · exact hb.grown h2 hB fun k hk => (World.ownsRow.lt hown k hk).1
end Go.Proofs.YtdjfklllfbenjaaDoor
