/- The reference: rows of words that a call makes; append. -/
import Derived.Test.YtdjfklllfbenjaaDoorBo
import Derived.Laws.AppendOwnNone
namespace Go.Proofs.YtdjfklllfbenjaaDoor
open Go.RowKit

theorem infoZU32 : (Tryd.prog.info? 64).map (fun i => (i.zero, i.size, i.bytes)) = some (some (.int .u32 0), 1, 4) := by kernel_rfl
/-- v is a slice of the call's own (blocks from B on) that holds the words ds. -/
def OwnW (w : World) (B : Nat) (v : Value) (ds : List Int) : Prop := w.ownsRow B 64 1 v ds.length (ds.map (Value.int .u32))
theorem OwnW.nil_ (w : World) (B : Nat) : OwnW w B (.slice none 0 0) [] := World.ownsRow_nil _ _ _ _
theorem OwnW.keep {w w' : World} {B : Nat} {v : Value} {ds : List Int} (h : OwnW w B v ds) (hk : ∀ g, g < w.heap.size → w'.heap[g]? = w.heap[g]?) : OwnW w' B v ds := by
  refine ⟨h.1, ?_⟩
  rcases h.2 with h2 | ⟨g, cap, cur, e, hb, hg, r⟩
  · exact .inl h2
  · exact .inr ⟨g, cap, cur, e, hb, (hk g (Array.getElem?_eq_some_iff.1 hg).1).trans hg, r⟩
theorem OwnW.below {w w' : World} {B : Nat} {v : Value} {ds : List Int} (h : OwnW w B v ds) (hb : Below w.heap.size w w') : OwnW w' B v ds := h.keep fun g hg => hb.block g hg
theorem OwnW.form {w : World} {B : Nat} {v : Value} {ds : List Int} (h : OwnW w B v ds) (h0 : 0 < ds.length) : ∃ g c, v = .slice (some ⟨g, 0, none⟩) ds.length c ∧ B ≤ g ∧ g < w.heap.size ∧ ds.length ≤ c ∧ (∀ k, k < ds.length → w.cell? ⟨g, k, none⟩ = some (.int .u32 (at_ ds k))) ∧ (∀ k, w.frozen? ⟨g, k, none⟩ = false) := by
  rcases h.2 with ⟨rfl, h1⟩ | ⟨g, cap, cur, rfl, hb, hg, hnc, hm, hs, ht⟩
  · omega
  · have hl : g < w.heap.size := (Array.getElem?_eq_some_iff.1 hg).1
    refine ⟨g, cap, rfl, hb, hl, hnc, fun k hk => ?_, fun k => by simp [World.frozen?, hg]⟩
    rw [cell_of_row w g k cur 64 (0, 0) hg, ← Array.getElem?_toList]
    have h1 : (cur.toList.take (ds.length * 1))[k]? = (ds.map (Value.int .u32))[k]? := by rw [ht]
    rw [List.getElem?_take_of_lt (by omega)] at h1
    rw [h1]
    simp [at_, hk]
theorem OwnW.set_ {w : World} {B g n c j : Nat} {ds : List Int} (h : OwnW w B (.slice (some ⟨g, 0, none⟩) n c) ds) (y : Int) : OwnW (w.setCell ⟨g, j, none⟩ (.int .u32 y)) B (.slice (some ⟨g, 0, none⟩) n c) (ds.set j y) := by
  have hn : n = ds.length := by
    rcases h.2 with ⟨e, _⟩ | ⟨_, _, _, e, _⟩
    · simp at e
    · injection e
  subst hn
  have := (World.ownsRow.stored h j (.int .u32 y)).1
  unfold OwnW
  simpa [List.map_set] using this
theorem OwnW.drewN {w : World} {B : Nat} {v : Value} {ds : List Int} (h : OwnW w B v ds) (n : Nat) : OwnW (w.drewN n) B v ds := h
theorem appW1 {ops : Array Oper} {rest : List Oper} {o : Oper} {a : Act} {Q : Exit → Act → World → Prop} {w W : World} {B : Nat} {v : Value} {ds : List Int}
    (hgd : o.guard = none) (s x : Operand) (T : TypeId) (ho : o.op = .call { callee := .builtin .append, args := #[s, x], argTypes := #[T, T] }) (hT : Tryd.prog.underlying T = some (.slice 64))
    (hs : a.eval s = v) (hown : OwnW w B v ds) (hb : Below B W w) (hB : B ≤ w.heap.size) (g : Nat) (y : Int) (hx : a.eval x = .slice (some ⟨g, 0, none⟩) 1 1) (hy : w.cell? ⟨g, 0, none⟩ = some (.int .u32 y))
    (hn : ds.length < 1000000000000) (h : ∀ v' w', OwnW w' B v' (ds ++ [y]) → Below B W w' → wpList Tryd.prog ops Q rest (a.put o.dst v') w') : wpList Tryd.prog ops Q (o :: rest) a w := by
  obtain ⟨i0, hi, hz0, hz1, hz2⟩ := info_parts infoZU32
  refine wpList_append_own w hgd s x T ho B 64 i0 (.int .u32 0) 1 4 hT hi hz0 hz1 hz2 rfl (by decide) v ds.length _ hs hown ⟨g, 0, none⟩ 1 1 [.int .u32 y] hx rfl ?_ ?_ ?_ ?_ hB ?_
  · intro j u hj
    match j, hj with
    | 0, hj => simp at hj; subst hj; simpa [Addr.add] using hy
  · intro u hu; simp at hu; subst hu; rfl
  · unfold maxLen; omega
  · omega
  · intro v' w' h1 h2 _
    refine h v' w' ?_ ?_
    · unfold OwnW
      simpa using h1
    · exact hb.grown h2 hB fun k hk => (World.ownsRow.lt hown k hk).1

/-- append of one word inside a region that draws its order. -/
theorem stepW1 {ops : Array Oper} {o : Oper} {a : Act} {K : Act → World → Prop} {Q : Exit → Act → World → Prop} {E : Prop} {w W : World} {B : Nat} {v : Value} {ds : List Int}
    (hgd : o.guard = none) (s x : Operand) (T : TypeId) (hop : o.op = Op.call { callee := Callee.builtin Builtin.append, args := #[s, x], argTypes := #[T, T] }) (hT : Tryd.prog.underlying T = some (.slice 64))
    (hs : a.eval s = v) (hown : OwnW w B v ds) (hb : Below B W w) (hB : B ≤ w.heap.size) (g : Nat) (y : Int) (hx : a.eval x = .slice (some ⟨g, 0, none⟩) 1 1) (hy : w.cell? ⟨g, 0, none⟩ = some (.int .u32 y))
    (n : Nat) (hl : n = ds.length) (hn : n < 1000000000000)
    (hK : ∀ g' c' w', OwnW w' B (.slice (some ⟨g', 0, none⟩) (n + 1) c') (ds ++ [y]) → Below B W w' → K (a.put o.dst (.slice (some ⟨g', 0, none⟩) (n + 1) c')) w') :
    if Region.wanted o (yielded ops a.tmps) = true then Oper.wp Tryd.prog o a w K Q else E := by
  subst hl
  obtain ⟨i0, hi, hz0, hz1, hz2⟩ := info_parts infoZU32
  have hw : Region.wanted o (yielded ops a.tmps) = true := by simp [Region.wanted, hgd]
  rw [if_pos hw]
  refine wp_append_own w s x T hop B 64 i0 (.int .u32 0) 1 4 hT hi hz0 hz1 hz2 rfl (by decide) v ds.length _ hs hown ⟨g, 0, none⟩ 1 1 [.int .u32 y] hx rfl ?_ ?_ ?_ ?_ hB ?_
  · intro j u hj
    match j, hj with
    | 0, hj => simp at hj; subst hj; simpa [Addr.add] using hy
  · intro u hu; simp at hu; subst hu; rfl
  · unfold maxLen; omega
  · omega
  · intro v' w' h1 h2 _
    have hO : OwnW w' B v' (ds ++ [y]) := by unfold OwnW; simpa using h1
    rcases hO.2 with ⟨_, h0⟩ | ⟨g', c', cur, rfl, _⟩
    · simp at h0
    · have e : (ds ++ [y]).length = ds.length + 1 := by simp
      rw [e] at hO ⊢
      exact hK g' c' w' hO (hb.grown h2 hB fun k hk => (World.ownsRow.lt hown k hk).1)
/-- append of a row of words. -/
theorem appWs {ops : Array Oper} {rest : List Oper} {o : Oper} {a : Act} {Q : Exit → Act → World → Prop} {w W : World} {B : Nat} {v : Value} {ds : List Int}
    (hgd : o.guard = none) (s x : Operand) (T : TypeId) (ho : o.op = .call { callee := .builtin .append, args := #[s, x], argTypes := #[T, T] }) (hT : Tryd.prog.underlying T = some (.slice 64))
    (hs : a.eval s = v) (hown : OwnW w B v ds) (hb : Below B W w) (hB : B ≤ w.heap.size) (g k m c : Nat) (es : List Int) (hx : a.eval x = .slice (some ⟨g, k, none⟩) m c) (hm : es.length = m) (hy : ∀ j, j < es.length → w.cell? ⟨g, k + j, none⟩ = some (.int .u32 (at_ es j)))
    (hn : ds.length + m < 1000000000000) (h : ∀ v' w', OwnW w' B v' (ds ++ es) → Below B W w' → wpList Tryd.prog ops Q rest (a.put o.dst v') w') : wpList Tryd.prog ops Q (o :: rest) a w := by
  subst hm
  obtain ⟨i0, hi, hz0, hz1, hz2⟩ := info_parts infoZU32
  refine wpList_append_own w hgd s x T ho B 64 i0 (.int .u32 0) 1 4 hT hi hz0 hz1 hz2 rfl (by decide) v ds.length _ hs hown ⟨g, k, none⟩ es.length c (es.map (Value.int .u32)) hx (by simp) ?_ (oneU32 es) ?_ ?_ hB ?_
  · intro j u hj
    have hjl : j < es.length := by have := (List.getElem?_eq_some_iff.1 hj).1; simpa using this
    rw [Addr.add_mid, hy j hjl, ← hj]
    simp [at_, hjl]
  · unfold maxLen; omega
  · omega
  · intro v' w' h1 h2 _
    refine h v' w' ?_ ?_
    · unfold OwnW
      simpa using h1
    · exact hb.grown h2 hB fun k hk => (World.ownsRow.lt hown k hk).1
end Go.Proofs.YtdjfklllfbenjaaDoor
