/- Package blake: a message in blocks. -/
import Derived.Test.YtdjfklllfbenjaaDoorBh
namespace Go.Proofs.YtdjfklllfbenjaaDoor
open Go.RowKit

/-! ### Lists -/
theorem at_drop (l : List Int) (n k : Nat) : at_ (l.drop n) k = at_ l (n + k) := by simp [at_]
theorem at_left {a b : List Int} {k : Nat} (h : k < a.length) : at_ (a ++ b) k = at_ a k := by unfold at_; rw [List.getElem?_append_left h]
theorem at_right {a b : List Int} {k : Nat} (h : a.length ≤ k) : at_ (a ++ b) k = at_ b (k - a.length) := by unfold at_; rw [List.getElem?_append_right h]
theorem at_none {a : List Int} {k : Nat} (h : a.length ≤ k) : at_ a k = 0 := by unfold at_; rw [List.getElem?_eq_none h]; rfl
theorem wordsL_congr {ds es : List Int} (h : ∀ k, k < 64 → at_ ds k = at_ es k) : wordsL ds = wordsL es := by
  unfold wordsL
  apply List.map_congr_left
  intro i hi
  have hi : i < 16 := by simpa using hi
  unfold wdAt
  rw [h (4 * i) (by omega), h (4 * i + 1) (by omega), h (4 * i + 2) (by omega), h (4 * i + 3) (by omega)]
theorem at_splice {L cs : List Int} {u k : Nat} (h : u + cs.length ≤ L.length) : at_ (splice L u cs) k = if k < u then at_ L k else if k < u + cs.length then at_ cs (k - u) else at_ L k := by
  have hl : (L.take u).length = u := by rw [List.length_take]; omega
  unfold splice
  split
  · rw [at_left (by rw [hl]; assumption)]
    unfold at_
    rw [List.getElem?_take_of_lt (by assumption)]
  · rw [at_right (by rw [hl]; omega), hl]
    split
    · rw [at_left (by omega)]
    · rw [at_right (by omega), at_drop]
      congr 1
      omega

/-! ### The blocks of a message -/
def foldL (h0 msg : List Int) : Nat → List Int
  | 0 => h0
  | i + 1 => comprL (foldL h0 msg i) (wordsL (msg.drop (64 * i))) ((64 * i + 64 : Nat) : Int) 0
/-- How many blocks come before the last one. -/
def nb (n : Nat) : Nat := (n - 1) / 64
/-- The state after the last block. -/
def hashS (h0 msg : List Int) : List Int := comprL (foldL h0 msg (nb msg.length)) (wordsL (msg.drop (64 * nb msg.length))) (msg.length : Int) 4294967295
theorem foldL_len {h0 : List Int} (msg : List Int) (h : h0.length = 8) : ∀ i, (foldL h0 msg i).length = 8
  | 0 => h
  | _i + 1 => comprL_len _ _ _ _
theorem foldL_app (h0 msg es : List Int) : ∀ i, 64 * i ≤ msg.length → foldL h0 (msg ++ es) i = foldL h0 msg i
  | 0, _ => rfl
  | i + 1, h => by
    unfold foldL
    rw [foldL_app h0 msg es i (by omega)]
    congr 1
    apply wordsL_congr
    intro k hk
    rw [at_drop, at_drop, at_left (by omega)]
/-- The computation x has taken the message. -/
structure Inv (x : Hst) (h0 msg : List Int) : Prop where
  st : x.st = foldL h0 msg (nb msg.length)
  before : x.before = 64 * nb msg.length
  used : x.used + 64 * nb msg.length = msg.length
  rest : ∀ k, k < x.used → at_ x.rest k = at_ msg (64 * nb msg.length + k)
theorem Inv.le {x : Hst} {h0 msg : List Int} (h : Inv x h0 msg) : x.used ≤ 64 := by
  have := h.used
  unfold nb at this
  omega
/-- A few bytes more, which fit. -/
theorem Inv.few {x : Hst} {h0 msg es : List Int} (h : Inv x h0 msg) (hr : x.rest.length = 64) (hf : x.used + es.length ≤ 64) :
    Inv { x with rest := splice x.rest x.used es, used := x.used + es.length } h0 (msg ++ es) := by
  have hu := h.used
  have hn : nb (msg ++ es).length = nb msg.length := by
    unfold nb at hu ⊢
    rw [List.length_append]
    omega
  refine ⟨?_, ?_, ?_, ?_⟩
  · show x.st = _
    rw [hn, foldL_app _ _ _ _ (by omega)]
    exact h.st
  · show x.before = _
    rw [hn]; exact h.before
  · show x.used + es.length + _ = _
    rw [hn, List.length_append]; omega
  · intro k hk
    have hk : k < x.used + es.length := hk
    show at_ (splice x.rest x.used es) k = _
    rw [at_splice (by omega), hn]
    split
    · rw [h.rest k (by assumption), at_left (by omega)]
    · rw [at_right (by omega)]
      congr 1
      omega
theorem Inv.zero (h0 : List Int) (x : Hst) (h1 : x.st = h0) (h2 : x.before = 0) (h3 : x.used = 0) : Inv x h0 [] :=
  ⟨h1, h2, by rw [h3]; rfl, fun k hk => by omega⟩
theorem But.cell_ {p b k : Nat} {w w' : World} (h : But p w w') (hb : b ≠ p) (hl : b < w.heap.size) : w'.cell? ⟨b, k, none⟩ = w.cell? ⟨b, k, none⟩ := World.cell?_of_block (h.block b hb hl)
theorem Tabs.but {p : Nat} {w w' : World} (h : Tabs w) (hb : But p w w') (hp : 2 ≤ p) : Tabs w' := h.below (hb.below (B := 2) hp h.lt) (Nat.le_refl _)
/-- copy into a variable that is known whole. -/
theorem list_copyB {ops : Array Oper} {rest : List Oper} {o : Oper} {a : Act} {w : World} {Q : Exit → Act → World → Prop} (hgd : o.guard = none) (d s : Operand) (dT sT : TypeId)
    (ho : o.op = .call { callee := .builtin .copy, args := #[d, s], argTypes := #[dT, sT] }) (elem : TypeId) (hu : Tryd.prog.underlying dT = some (.slice elem)) (hsz : (Tryd.prog.info? elem).map (·.size) = some 1)
    (dp sp : Option Addr) (dLen dCap sLen sCap : Nat) (hd : a.eval d = .slice dp dLen dCap) (hs : a.eval s = .slice sp sLen sCap)
    (g off : Nat) (cur : List Value) (t : TypeId) (hg : w.heap[g]? = some (.cells cur.toArray t (0, 0))) (cs : List Value) (hn : cs.length = Nat.min sLen dLen)
    (hpos : 0 < cs.length → dp = some ⟨g, off, none⟩ ∧ ∃ ad, sp = some ad ∧ ∀ j v, cs[j]? = some v → w.cell? (ad.add j) = some v)
    (hfit : off + cs.length ≤ cur.length) (h1 : ∀ v ∈ cs, v.oneCell' = true)
    (h : ∀ w', Hid (w'.heap[g]? = some (.cells (splice cur off cs).toArray t (0, 0))) → But g w w' → wpList Tryd.prog ops Q rest (a.put o.dst (goInt cs.length)) w') :
    wpList Tryd.prog ops Q (o :: rest) a w := by
  refine wpList_plain hgd fun K hK => ?_
  have hw : Region.wanted o (yielded ops a.tmps) = true := by simp [Region.wanted, hgd]
  have := step_copyB (ops := ops) (K := K) (Q := Q) (E := True) hgd d s dT sT ho elem hu hsz dp sp dLen dCap sLen sCap hd hs g off cur t hg cs hn hpos hfit h1 (fun w' h1 h2 => hK _ _ (h w' h1 h2))
  rw [if_pos hw] at this
  exact this
end Go.Proofs.YtdjfklllfbenjaaDoor
