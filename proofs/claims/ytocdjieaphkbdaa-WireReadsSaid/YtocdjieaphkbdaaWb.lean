/- Memory: which blocks may change; rows of numbers; append. -/
import Derived.Test.YtocdjieaphkbdaaWa
import Derived.Maps.AppendAt
import Derived.Deep.MidRow
import Derived.Laws.AppendOwnNone
import Derived.Laws.IdiomStrings
namespace Go.Proofs.Ytocdjieaphkbdaa
open Go.RowKit

/-- Of the blocks that there were only those in E may have changed. -/
structure Ch (E : Nat → Prop) (w w' : World) : Prop where
  os : w'.os = w.os
  tape : w'.tape = w.tape
  output : w'.output = w.output
  size : w.heap.size ≤ w'.heap.size
  block : ∀ i, i < w.heap.size → ¬ E i → w'.heap[i]? = w.heap[i]?
/-- No block. -/
def No : Nat → Prop := fun _ => False
section
variable {E E' : Nat → Prop} {a b c w w' : World}
theorem Ch.refl (E : Nat → Prop) (w : World) : Ch E w w := ⟨rfl, rfl, rfl, Nat.le_refl _, fun _ _ _ => rfl⟩
theorem Ch.trans (h : Ch E a b) (k : Ch E' b c) (hE : ∀ i, i < a.heap.size → E' i → E i) : Ch E a c :=
  ⟨k.os.trans h.os, k.tape.trans h.tape, k.output.trans h.output, Nat.le_trans h.size k.size, fun i hi hn => (k.block i (Nat.lt_of_lt_of_le hi h.size) fun h' => hn (hE i hi h')).trans (h.block i hi hn)⟩
theorem Ch.mono (h : Ch E a b) (hE : ∀ i, i < a.heap.size → E i → E' i) : Ch E' a b := ⟨h.os, h.tape, h.output, h.size, fun i hi hn => h.block i hi fun h' => hn (hE i hi h')⟩
theorem Ch.no (h : Ch No a b) : Ch E a b := h.mono fun _ _ h' => h'.elim
theorem Ch.then (h : Ch E a b) (k : Ch No b c) : Ch E a c := h.trans k fun _ _ h' => h'.elim
theorem Ch.after (h : Ch No a b) (k : Ch E b c) : Ch E a c := h.no.trans k fun _ _ h' => h'
theorem Ch.drew (h : Ch E a b) : Ch E a b.drew := ⟨h.os, h.tape, h.output, h.size, h.block⟩
theorem Ch.undrew (h : Ch E a.drew b) : Ch E a b := ⟨h.os, h.tape, h.output, h.size, h.block⟩
theorem Ch.alloc (h : Ch E a b) (o : Obj) : Ch E a (b.alloc o) :=
  ⟨h.os, h.tape, h.output, Nat.le_trans h.size (by simp), fun i hi hn => (Below.heap_alloc b o i (Nat.lt_of_lt_of_le hi h.size)).trans (h.block i hi hn)⟩
theorem Ch.new (w : World) (o : Obj) : Ch No w (w.alloc o) := (Ch.refl No w).alloc o
theorem Ch.set_ (h : Ch E a b) {p : Addr} (hp : E p.block ∨ a.heap.size ≤ p.block) (u : Value) : Ch E a (b.setCell p u) := by
  refine ⟨h.os, h.tape, h.output, Nat.le_trans h.size (by simp [World.setCell]), fun i hi hn => (Below.heap_setCell b p u i fun e => ?_).trans (h.block i hi hn)⟩
  rcases hp with hp | hp
  · exact hn (e ▸ hp)
  · omega
theorem Ch.put (w : World) (p k : Nat) (u : Value) : Ch (fun i => i = p) w (w.setCell ⟨p, k, none⟩ u) := (Ch.refl (fun i => i = p) w).set_ (p := ⟨p, k, none⟩) (Or.inl (show p = p from rfl)) u
theorem Ch.below (h : Ch E a b) {B : Nat} (hB : B ≤ a.heap.size) (hE : ∀ i, i < B → ¬ E i) : Below B a b := ⟨h.os, h.tape, h.output, h.size, fun i hi => h.block i (Nat.lt_of_lt_of_le hi hB) (hE i hi)⟩
theorem Ch.all (h : Ch No a b) : Below a.heap.size a b := h.below (Nat.le_refl _) fun _ _ h' => h'
theorem Ch.of (h : Below a.heap.size a b) : Ch E a b := ⟨h.os, h.tape, h.output, h.size, fun i hi _ => h.block i hi⟩
theorem Ch.grown {row : Option Nat} (h : w.grownBy w' row) : Ch (fun i => row = some i) w w' := ⟨h.os, h.tape, h.output, h.size, fun i hi hn => h.block i hi fun e => hn e.symm⟩
theorem Ch.cell (h : Ch E a b) {g k : Nat} {v : Value} (hc : a.cell? ⟨g, k, none⟩ = some v) (hg : ¬ E g) : b.cell? ⟨g, k, none⟩ = some v :=
  (World.cell?_of_block (a := ⟨g, k, none⟩) (h.block g (block_lt_of_cell hc) hg)).trans hc
end

/-- v is a slice of the numbers ds in a block of P. -/
def Rw (w : World) (P : Nat → Prop) (K : IntKind) (v : Value) (ds : List Int) : Prop :=
  ∃ A c, v = .slice A ds.length c ∧ ds.length ≤ c ∧ (A = none → c = 0) ∧ (0 < ds.length → ∃ b o, A = some ⟨b, o, none⟩ ∧ P b ∧ b < w.heap.size ∧ ∀ k, k < ds.length → w.cell? ⟨b, o + k, none⟩ = some (.int K (at_ ds k)))
section
variable {E P P' : Nat → Prop} {w w' : World} {K : IntKind} {v : Value} {ds : List Int}
theorem Rw.ch (h : Rw w P K v ds) (hc : Ch E w w') (hP : ∀ i, i < w.heap.size → P i → ¬ E i) : Rw w' P K v ds := by
  obtain ⟨A, c, e, h1, h2, h3⟩ := h
  refine ⟨A, c, e, h1, h2, fun h0 => ?_⟩
  obtain ⟨b, o, e1, hb, hl, hk⟩ := h3 h0
  exact ⟨b, o, e1, hb, Nat.lt_of_lt_of_le hl hc.size, fun k hk' => hc.cell (hk k hk') (hP b hl hb)⟩
theorem Rw.mono (h : Rw w P K v ds) (hP : ∀ i, i < w.heap.size → P i → P' i) : Rw w P' K v ds := by
  obtain ⟨A, c, e, h1, h2, h3⟩ := h
  refine ⟨A, c, e, h1, h2, fun h0 => ?_⟩
  obtain ⟨b, o, e1, hb, hl, hk⟩ := h3 h0
  exact ⟨b, o, e1, hP b hl hb, hl, hk⟩
theorem Rw.nil_ : Rw w P K (.slice none 0 0) [] := ⟨none, 0, rfl, Nat.le_refl _, fun _ => rfl, fun h => by simp at h⟩
theorem Rw.one {g : Nat} {y : Int} (hP : P g) (hc : w.cell? ⟨g, 0, none⟩ = some (.int K y)) : Rw w P K (.slice (some ⟨g, 0, none⟩) 1 1) [y] :=
  ⟨_, 1, rfl, Nat.le_refl _, fun e => (by cases e), fun _ => ⟨g, 0, rfl, hP, block_lt_of_cell hc, fun k hk => by
    match k, hk with
    | 0, _ => exact hc⟩⟩
theorem Rw.drew (h : Rw w P K v ds) : Rw w.drew P K v ds := h
end

/-- v is a slice of the call's own (blocks from B on) that holds the numbers ds. -/
def Ow (T : TypeId) (K : IntKind) (w : World) (B : Nat) (v : Value) (ds : List Int) : Prop := w.ownsRow B T 1 v ds.length (ds.map (Value.int K))
/-- The new slice lies where the old one lay, or in a new block. -/
def Mv (w : World) (v v' : Value) : Prop := v'.ownBlock = v.ownBlock ∨ ∃ b, v'.ownBlock = some b ∧ w.heap.size ≤ b
theorem Mv.refl (w : World) (v : Value) : Mv w v v := .inl rfl
theorem Mv.trans {a b : World} {u v x : Value} (h : Mv a u v) (k : Mv b v x) (hs : a.heap.size ≤ b.heap.size) : Mv a u x := by
  rcases k with k | ⟨g, k1, k2⟩
  · rcases h with h | ⟨g, h1, h2⟩
    · exact .inl (k.trans h)
    · exact .inr ⟨g, k.trans h1, h2⟩
  · exact .inr ⟨g, k1, Nat.le_trans hs k2⟩
/-- The block of v. -/
def Of (v : Value) : Nat → Prop := fun i => v.ownBlock = some i
theorem Mv.of {a : World} {v v' : Value} (h : Mv a v v') {i : Nat} (hi : i < a.heap.size) (h' : Of v' i) : Of v i := by
  unfold Of at *
  rcases h with h | ⟨g, h1, h2⟩
  · rw [← h]; exact h'
  · rw [h1] at h'; injection h' with e; omega
section
variable {E P : Nat → Prop} {T : TypeId} {w w' : World} {K : IntKind} {v : Value} {ds : List Int} {B B' : Nat}
theorem Ow.nil_ : Ow T K w B (.slice none 0 0) [] := World.ownsRow_nil _ _ _ _
theorem Ow.keep (h : Ow T K w B v ds) (hk : ∀ b, v.ownBlock = some b → w'.heap[b]? = w.heap[b]?) : Ow T K w' B v ds := by
  refine ⟨h.1, ?_⟩
  rcases h.2 with h2 | ⟨g, cap, cur, e, hb, hg, r⟩
  · exact .inl h2
  · exact .inr ⟨g, cap, cur, e, hb, (hk g (by rw [e]; rfl)).trans hg, r⟩
theorem Ow.lt (h : Ow T K w B v ds) {b : Nat} (hb : v.ownBlock = some b) : B ≤ b ∧ b < w.heap.size := World.ownsRow.lt h b hb
theorem Ow.ch (h : Ow T K w B v ds) (hc : Ch E w w') (hE : ∀ b, v.ownBlock = some b → ¬ E b) : Ow T K w' B v ds := h.keep fun b hb => hc.block b (h.lt hb).2 (hE b hb)
theorem Ow.no (h : Ow T K w B v ds) (hc : Ch No w w') : Ow T K w' B v ds := h.ch hc fun _ _ h' => h'
theorem Ow.less (h : Ow T K w B v ds) (hB : B' ≤ B) : Ow T K w B' v ds := by
  refine ⟨h.1, ?_⟩
  rcases h.2 with h2 | ⟨g, cap, cur, e, hb, r⟩
  · exact .inl h2
  · exact .inr ⟨g, cap, cur, e, Nat.le_trans hB hb, r⟩
theorem Ow.rw_ (h : Ow T K w B v ds) : Rw w (Of v) K v ds := by
  rcases h.2 with ⟨rfl, h0⟩ | ⟨g, cap, cur, rfl, hb, hg, hnc, hm, hs, ht⟩
  · have : ds = [] := List.eq_nil_of_length_eq_zero h0
    subst this
    exact Rw.nil_
  · have hl : g < w.heap.size := (Array.getElem?_eq_some_iff.1 hg).1
    refine ⟨_, cap, rfl, hnc, fun e => (by cases e), fun hn => ⟨g, 0, rfl, rfl, hl, fun k hk => ?_⟩⟩
    rw [cell_of_row w g (0 + k) cur T (0, 0) hg, ← Array.getElem?_toList]
    have h1 : (cur.toList.take (ds.length * 1))[0 + k]? = (ds.map (Value.int K))[0 + k]? := by rw [ht]
    rw [List.getElem?_take_of_lt (by omega)] at h1
    rw [h1]
    simp [at_, hk]
theorem Ow.shape (h : Ow T K w B v ds) : ∃ A c, v = .slice A ds.length c := by
  rcases h.2 with ⟨rfl, h0⟩ | ⟨g', cap, cur, rfl, _⟩
  · exact ⟨none, 0, by rw [h0]⟩
  · exact ⟨_, cap, rfl⟩
theorem Ow.new {cs : List Int} {n : Nat} (hn : cs.length = n) (hm : n < 1000000) (hB : B ≤ w.heap.size) : Ow T K (w.alloc (.cells (cs.map (Value.int K)).toArray T)) B (.slice (some ⟨w.heap.size, 0, none⟩) n n) cs := by
  subst hn
  refine ⟨by simp, .inr ⟨w.heap.size, cs.length, _, rfl, hB, heap_alloc_new w _, Nat.le_refl _, by unfold maxLen; omega, by simp, ?_⟩⟩
  simp only [List.toList_toArray, Nat.mul_one]
  exact List.take_of_length_le (by simp)
end
theorem infoU8 : (Try.prog.info? 5).map (fun i => (i.zero, i.size, i.bytes)) = some (some (.int .u8 0), 1, 1) := by kernel_rfl
theorem infoI64 : (Try.prog.info? 3).map (fun i => (i.zero, i.size, i.bytes)) = some (some (.int .i64 0), 1, 8) := by kernel_rfl
theorem ones (K : IntKind) (s : List Int) : ∀ v ∈ s.map (Value.int K), v.oneCell' = true := by
  intro v hv
  obtain ⟨x, -, rfl⟩ := List.mem_map.1 hv
  rfl
/-- append of numbers that lie anywhere: the run. -/
theorem run_app {w : World} {B : Nat} {v : Value} {ds : List Int} {TS ty T : TypeId} {K : IntKind} {by_ : Nat} (hi0 : (Try.prog.info? T).map (fun i => (i.zero, i.size, i.bytes)) = some (some (.int K 0), 1, by_)) (hby : by_ ≤ 8)
    (hT : Try.prog.underlying TS = some (.slice T)) (hown : Ow T K w B v ds) (hB : B ≤ w.heap.size) (x : Value) (P : Nat → Prop) (es : List Int) (hp : Rw w P K x es) (hn : ds.length + es.length < 1000000000000) :
    ∃ v' w', (Builtin.append_ #[TS, TS] ty #[v, x]).run Try.prog w = .ok v' w' ∧ Ow T K w' B v' (ds ++ es) ∧ Ch (Of v) w w' ∧ Mv w v v' := by
  obtain ⟨A, c, rfl, hle, hnone, hpc⟩ := hp
  obtain ⟨i0, hi, hz0, hz1, hz2⟩ := info_parts hi0
  cases A with
  | none =>
    have h0 : es = [] := by
      rcases Nat.eq_zero_or_pos es.length with h0 | h0
      · exact List.eq_nil_of_length_eq_zero h0
      · obtain ⟨_, _, e, _⟩ := hpc h0; cases e
    subst h0
    obtain rfl := hnone rfl
    refine ⟨v, w, run_append_owned_none (P := Try.prog) (w := w) B TS ty T i0 1 hT hi v ds.length _ hown, ?_, Ch.refl _ _, Mv.refl _ _⟩
    rw [List.append_nil]
    exact hown
  | some ad =>
    obtain ⟨v', w', hr, h2, h3, -, h5⟩ := run_append_own_at (P := Try.prog) w B TS ty T i0 (.int K 0) 1 by_ hT hi hz0 hz1 hz2 rfl (by decide) v ds.length _ hown ad es.length c (es.map (Value.int K)) (by simp) (by
      intro j u hj
      have hjl : j < es.length := by have := (List.getElem?_eq_some_iff.1 hj).1; simpa using this
      obtain ⟨b, k, e, -, -, hy⟩ := hpc (by omega)
      injection e with e
      subst e
      rw [Addr.add_mid, hy j hjl, ← hj]
      simp [at_, hjl]) (ones K es) (by unfold maxLen; omega) (Nat.le_trans (Nat.mul_le_mul_left _ hby) (by omega)) hB
    refine ⟨v', w', hr, ?_, Ch.grown h3, ?_⟩
    · unfold Ow
      simpa using h2
    · rcases h5 with h5 | h5
      · exact .inl h5
      · exact .inr ⟨_, h5, Nat.le_refl _⟩
/-- append, as a law for the walk. -/
theorem app {ops : Array Oper} {rest : List Oper} {o : Oper} {a : Act} {Q : Exit → Act → World → Prop} {w : World} {B : Nat} {v x : Value} {ds : List Int} {T : TypeId} {K : IntKind} {by_ : Nat}
    (hgd : o.guard = none) (s y : Operand) (TS : TypeId) (ho : o.op = .call { callee := .builtin .append, args := #[s, y], argTypes := #[TS, TS] }) (hT : Try.prog.underlying TS = some (.slice T))
    (hi0 : (Try.prog.info? T).map (fun i => (i.zero, i.size, i.bytes)) = some (some (.int K 0), 1, by_)) (hby : by_ ≤ 8)
    (hs : a.eval s = v) (hx : a.eval y = x) (hown : Ow T K w B v ds) (hB : B ≤ w.heap.size) (P : Nat → Prop) (es : List Int) (hp : Rw w P K x es)
    (hn : ds.length + es.length < 1000000000000) (h : ∀ v' w', Ow T K w' B v' (ds ++ es) → Ch (Of v) w w' → Mv w v v' → wpList Try.prog ops Q rest (a.put o.dst v') w') : wpList Try.prog ops Q (o :: rest) a w := by
  refine wpList_plain hgd fun K' hK' => ?_
  obtain ⟨v', w', hr, h1, h2, h3⟩ := run_app (ty := o.type) hi0 hby hT hown hB x P es hp hn
  unfold Oper.wp
  simp [execOp, ho, resolve, invoke, builtin, hs, hx, hr, Result.andThen]
  exact hK' _ _ (h v' w' h1 h2 h3)
/-- append inside a region that draws its order. -/
theorem stepApp {ops : Array Oper} {o : Oper} {a : Act} {K' : Act → World → Prop} {Q : Exit → Act → World → Prop} {D : Prop} {w : World} {B : Nat} {v x : Value} {ds : List Int} {T : TypeId} {K : IntKind} {by_ : Nat}
    (hw : Region.wanted o (yielded ops a.tmps) = true) (s y : Operand) (TS : TypeId) (hop : o.op = Op.call { callee := Callee.builtin Builtin.append, args := #[s, y], argTypes := #[TS, TS] }) (hT : Try.prog.underlying TS = some (.slice T))
    (hi0 : (Try.prog.info? T).map (fun i => (i.zero, i.size, i.bytes)) = some (some (.int K 0), 1, by_)) (hby : by_ ≤ 8)
    (hs : a.eval s = v) (hx : a.eval y = x) (hown : Ow T K w B v ds) (hB : B ≤ w.heap.size) (P : Nat → Prop) (es : List Int) (hp : Rw w P K x es)
    (hn : ds.length + es.length < 1000000000000) (hK : ∀ v' w', Ow T K w' B v' (ds ++ es) → Ch (Of v) w w' → Mv w v v' → K' (a.put o.dst v') w') :
    if Region.wanted o (yielded ops a.tmps) = true then Oper.wp Try.prog o a w K' Q else D := by
  rw [if_pos hw]
  obtain ⟨v', w', hr, h1, h2, h3⟩ := run_app (ty := o.type) hi0 hby hT hown hB x P es hp hn
  unfold Oper.wp execOp
  simp only [hop, resolve, invoke, builtin, Sem.run_bind, Sem.run_pure, Result.andThen_ok, List.map_toArray, List.map_cons, List.map_nil, hs, hx, hr]
  exact hK v' w' h1 h2 h3
end Go.Proofs.Ytocdjieaphkbdaa
