/- WireReads: a slice's rest. -/
import Derived.Test.YtocdjieaphkbdaaYc2
namespace Go.Proofs.Ytocdjieaphkbdaa
open Go.RowKit

/-- The rest of a slice of bytes. -/
theorem slice_run {w : World} {P : Nat → Prop} {A : Option Addr} {n c a : Nat} {bd : List Int} (h : Rw w P .u8 (.slice A n c) bd) (hn : bd.length = n) (ha : a ≤ n) :
    ∃ A1 c1, (∀ W, (Instr.slice 28 (.slice A n c) (some (.int .i64 (a : Int))) none none).run Try.prog W = .ok (.slice A1 (n - a) c1) W) ∧ Rw w P .u8 (.slice A1 (n - a) c1) (bd.drop a) := by
  have hcap := h.cap hn
  have hi : (a : Int) ≤ n := by omega
  refine ⟨if c = a then A else A.map (·.add a), c - a, fun W => ?_, ?_⟩
  · have hsz : Try.prog.cellsOf 5 = 1 := by kernel_rfl
    simp [Instr.slice, Instr.sliceBounds, Instr.sliceBound, asIntOf, go_sem, Try.underlying28, hi, ha]
  · obtain ⟨A', c', e, hle, hno, h1⟩ := h
    injection e with e1 e2 e3
    subst e1 e3
    have hl : (bd.drop a).length = n - a := by rw [List.length_drop, hn]
    refine ⟨_, c - a, by rw [hl], by rw [hl]; omega, fun e => ?_, fun h0 => ?_⟩
    · split at e
      · have := hno e; omega
      · cases A with
        | none => have := hno rfl; omega
        | some x => cases e
    · rw [hl] at h0
      obtain ⟨b', o', e, hP, hb, hc⟩ := h1 (by omega)
      subst e
      rw [if_neg (by omega)]
      refine ⟨b', o' + a, by simp [Addr.add], hP, hb, fun k hk => ?_⟩
      rw [hl] at hk
      rw [Nat.add_assoc, hc (a + k) (by omega)]
      congr 2
      unfold at_
      rw [List.getElem?_drop]
end Go.Proofs.Ytocdjieaphkbdaa
