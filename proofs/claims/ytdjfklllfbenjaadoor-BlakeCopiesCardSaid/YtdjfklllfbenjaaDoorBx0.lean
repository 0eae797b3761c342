/- append onto a row that stays as it was: inside a region that draws its order. -/
import Derived.Test.YtdjfklllfbenjaaDoorBy
import Derived.Maps.AppendAt
import Derived.Deep.RegionHeld
namespace Go.Proofs.YtdjfklllfbenjaaDoor
open Go.RowKit

theorem stepA {ops : Array Oper} {o : Oper} {a : Act} {K : Act → World → Prop} {Q : Exit → Act → World → Prop} {E : Prop} {w : World} {B : Nat} {v : Value} {ds : List Int}
    (hw : Region.wanted o (yielded ops a.tmps) = true) (s x : Operand) (T : TypeId) (hop : o.op = Op.call { callee := Callee.builtin Builtin.append, args := #[s, x], argTypes := #[T, T] }) (hT : Tryd.prog.underlying T = some (.slice 5))
    (hs : a.eval s = v) (hown : Own w B v ds) (hB : B ≤ w.heap.size) (A : Option Addr) (m c p : Nat) (es : List Int) (hx : a.eval x = .slice A m c) (hA : A = none → c = 0) (hp : PartAt w p (.slice A m c) es) (hm : es.length = m)
    (hn : ds.length + m < 1000000000000) (hK : ∀ v' w', Own w' B v' (ds ++ es) → Own w' B v ds → Below B w w' → K (a.put o.dst v') w') :
    if Region.wanted o (yielded ops a.tmps) = true then Oper.wp Tryd.prog o a w K Q else E := by
  rw [if_pos hw]
  subst hm
  obtain ⟨i0, hi, hz0, hz1, hz2⟩ := info_parts infoZU8
  obtain ⟨A', c', e, hle, hpc⟩ := hp
  injection e with e1 _ e3
  subst e1 e3
  cases A with
  | none =>
    have h0 : es = [] := by
      rcases Nat.eq_zero_or_pos es.length with h0 | h0
      · exact List.eq_nil_of_length_eq_zero h0
      · obtain ⟨_, _, e, _⟩ := hpc h0; cases e
    subst h0
    have hc0 := hA rfl
    subst hc0
    have hr := run_append_owned_none (P := Tryd.prog) (w := w) B T o.type 5 i0 1 hT hi v ds.length _ hown
    unfold Oper.wp execOp
    simp only [hop, resolve, invoke, builtin, Sem.run_bind, Sem.run_pure, Result.andThen_ok, List.map_toArray, List.map_cons, List.map_nil, hs, hx, List.length_nil, hr]
    refine hK v w ?_ hown (Below.refl _ _)
    rw [List.append_nil]
    exact hown
  | some ad =>
    have hl : (es.map (Value.int .u8)).length = es.length * 1 := by simp
    have hnews : ∀ j u, (es.map (Value.int .u8))[j]? = some u → w.cell? (ad.add j) = some u := by
      intro j u hj
      have hjl : j < es.length := by have := (List.getElem?_eq_some_iff.1 hj).1; simpa using this
      obtain ⟨b, k, e, -, -, hy⟩ := hpc (by omega)
      injection e with e
      subst e
      rw [Addr.add_mid, hy j hjl, ← hj]
      simp [at_, hjl]
    obtain ⟨v', w', hr, h2, h3, -, -⟩ := run_append_own_at (P := Tryd.prog) w B T o.type 5 i0 (.int .u8 0) 1 1 hT hi hz0 hz1 hz2 rfl (by decide) v ds.length _ hown ad es.length c (es.map (Value.int .u8)) hl hnews (oneU8 es) (by unfold maxLen; omega) (by omega) hB
    have hkeep : Own w' B v ds := by
      rcases hown.2 with ⟨rfl, h0⟩ | ⟨g, cap, cur, rfl, hbg, hg, hnc, hcm, hcs, ht⟩
      · have : ds = [] := List.eq_nil_of_length_eq_zero h0
        subst this
        exact Own.nil_ _ _
      · have hcl : cur.toList.length = cap := by rw [Array.length_toList, hcs, Nat.mul_one]
        by_cases hroom : ds.length + es.length ≤ cap
        · have hr2 := run_append_room (P := Tryd.prog) w T o.type 5 i0 hT hi g ds.length cap cur hg ad es.length c (es.map (Value.int .u8)) (by rw [hz1]; exact hl) hnews (oneU8 es) hroom (by rw [hz1, hl, hcs]; omega)
          rw [hr] at hr2
          injection hr2 with e1 e2
          subst e2
          refine ⟨hown.1, .inr ⟨g, cap, _, rfl, hbg, setRow_heap w g cur _ 5 _ hg, hnc, hcm, ?_, ?_⟩⟩
          · simp only [List.size_toArray, List.length_append, List.length_take, List.length_drop, Array.length_toList, List.length_map, hz1]
            omega
          · rw [hz1] at *
            simp only [List.append_assoc]
            rw [List.take_append_of_le_length (by rw [List.length_take]; exact Nat.le_min.2 ⟨Nat.le_refl _, Nat.le_trans (show ds.length * 1 ≤ cap by omega) (Nat.le_of_eq hcl.symm)⟩), List.take_take, Nat.min_self]
            exact ht
        · have hr2 := run_append_grow (P := Tryd.prog) w T o.type 5 i0 (.int .u8 0) hT hi hz0 ⟨g, 0, none⟩ ds.length cap (ds.map (Value.int .u8)) (by rw [hz1]; simp) (World.ownsRow.cells hown (g := g) rfl) ad es.length c (es.map (Value.int .u8)) (by rw [hz1]; exact hl) hnews (by omega) (by omega) (by rw [hz2]; exact growslice_fits (by omega) (by omega))
          rw [hr] at hr2
          injection hr2 with e1 e2
          subst e2
          exact ⟨hown.1, .inr ⟨g, cap, cur, rfl, hbg, (Below.heap_alloc w.drew _ g (Array.getElem?_eq_some_iff.1 hg).1).trans hg, hnc, hcm, hcs, ht⟩⟩
    unfold Oper.wp execOp
    simp only [hop, resolve, invoke, builtin, Sem.run_bind, Sem.run_pure, Result.andThen_ok, List.map_toArray, List.map_cons, List.map_nil, hs, hx, hr]
    refine hK v' w' ?_ hkeep ((Below.refl B w).grown h3 hB fun k hk => (World.ownsRow.lt hown k hk).1)
    unfold Own
    simpa using h2
end Go.Proofs.YtdjfklllfbenjaaDoor
