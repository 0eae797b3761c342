/- Package random: words. -/
import Derived.Test.YtmidoicbbgdchaaRows
import Derived.WalkKit
import Derived.WalkSpells
import Derived.WalkLawsBesides
import Derived.Lib.Hide
import Derived.Deep.QuietTactic
import Derived.BigQuiet
import Derived.RowKit3
import Derived.ProofKit
import Derived.OpenShut
import Derived.Laws.Closers25b
namespace Go.Proofs.Ytmidoicbbgdchaa
open Go.RowKit

/-! ### The steps of the state -/
def leftN (M I s : Nat) : Nat := (M - s) * I % M
theorem left_zero {M C I s : Nat} (hI : C * I % M = 1) (hs : s < M) (h : leftN M I s = 0) : s = 0 := by
  unfold leftN at h
  have h1 : (M - s) * I * C % M = 0 := by rw [Nat.mul_mod, h, Nat.zero_mul, Nat.zero_mod]
  rw [Nat.mul_assoc, Nat.mul_comm I, Nat.mul_mod, hI, Nat.mul_one, Nat.mod_mod] at h1
  rcases Nat.eq_zero_or_pos s with h0 | h0
  · exact h0
  · rw [Nat.mod_eq_of_lt (by omega)] at h1; omega
theorem left_step {M C I s : Nat} (hM : 1 < M) (hI : C * I % M = 1) (hs : s < M) (h : leftN M I s ≠ 0) : leftN M I ((s + C) % M) + 1 = leftN M I s := by
  have key : (leftN M I ((s + C) % M) + 1) % M = leftN M I s % M := by
    unfold leftN
    rw [Nat.mod_mod, Nat.mod_add_mod]
    have e1 : ((M - (s + C) % M) * I + C * I) % M = ((M - s) * I) % M := by
      rw [← Nat.add_mul]
      have hlt := Nat.mod_lt (s + C) (show 0 < M by omega)
      have hd := Nat.div_add_mod (s + C) M
      have e : M - (s + C) % M + C = (M - s) + M * ((s + C) / M) := by omega
      rw [e, Nat.add_mul, Nat.mul_assoc, Nat.add_mul_mod_self_left]
    rw [← e1, Nat.add_mod _ (C * I), hI]
    exact (Nat.mod_add_mod _ M 1).symm
  have hl : leftN M I s < M := Nat.mod_lt _ (by omega)
  have hr : leftN M I ((s + C) % M) < M := Nat.mod_lt _ (by omega)
  rw [Nat.mod_eq_of_lt hl] at key
  rcases Nat.lt_or_ge (leftN M I ((s + C) % M) + 1) M with h1 | h1
  · rw [Nat.mod_eq_of_lt h1] at key; exact key
  · have : leftN M I ((s + C) % M) + 1 = M := by omega
    rw [this, Nat.mod_self] at key
    exact absurd key.symm h

/-! ### States and words -/
def nx (s : Int) : Int := IntKind.u64.wrap (s + 11400714819323198485)
def mA (z : Int) : Int := IntKind.u64.wrap (bits .xor .u64 z (z / 1073741824) * 13787848793156543929)
def mB (z : Int) : Int := IntKind.u64.wrap (bits .xor .u64 z (z / 134217728) * 10723151780598845931)
def wd (s : Int) : Int := bits .xor .u64 (mB (mA s)) (mB (mA s) / 2147483648)
/-- A state is in its range. -/
def St (s : Int) : Prop := 0 ≤ s ∧ s < 18446744073709551616
theorem nx_st (s : Int) : St (nx s) := by unfold St nx; rw [IntKind.wrap_u64]; omega
theorem wd_st (s : Int) : St (wd s) := by
  have h := bits_within .xor .u64 (mB (mA s)) (mB (mA s) / 2147483648)
  rw [show IntKind.u64.min = 0 by decide, show IntKind.u64.max = 18446744073709551615 by decide] at h
  exact ⟨h.1, by have := h.2; unfold wd; omega⟩
theorem wd_zero : wd 0 = 0 := by decide +kernel
def left (s : Int) : Nat := leftN 18446744073709551616 17428512612931826493 s.toNat
theorem left_cast (n : Nat) : left (n : Int) = leftN 18446744073709551616 17428512612931826493 n := by unfold left; rw [Int.toNat_natCast]
theorem inv_ok : 11400714819323198485 * 17428512612931826493 % 18446744073709551616 = 1 := by decide
theorem left_nx {s : Int} (hs : St s) (h : left s ≠ 0) : left (nx s) + 1 = left s := by
  obtain ⟨n, rfl⟩ := Int.eq_ofNat_of_zero_le hs.1
  have hn : n < 18446744073709551616 := by have := hs.2; omega
  have e : nx (n : Int) = (((n + 11400714819323198485) % 18446744073709551616 : Nat) : Int) := by unfold nx; rw [IntKind.wrap_u64]; omega
  rw [e]
  rw [left_cast] at h ⊢
  rw [left_cast]
  exact left_step (by decide) inv_ok hn h
theorem left_nil {s : Int} (hs : St s) (h : left s = 0) : s = 0 := by
  obtain ⟨n, rfl⟩ := Int.eq_ofNat_of_zero_le hs.1
  have hn : n < 18446744073709551616 := by have := hs.2; omega
  rw [left_cast] at h
  rw [left_zero inv_ok hn h]
  rfl
/-- The first state from s on whose word is taken. -/
def run (r : Int) : Nat → Int → Int
  | 0, s => s
  | k + 1, s => if wd s ≤ 18446744073709551615 - r then s else run r k (nx s)
def fin (r s : Int) : Int := run r (left s) s
theorem run_succ (r : Int) (k : Nat) (s : Int) : run r (k + 1) s = if wd s ≤ 18446744073709551615 - r then s else run r k (nx s) := rfl
theorem run_yes {r s : Int} (k : Nat) (h : wd s ≤ 18446744073709551615 - r) : run r k s = s := by
  cases k with
  | zero => rfl
  | succ k => rw [run_succ, if_pos h]
theorem fin_yes {r s : Int} (h : wd s ≤ 18446744073709551615 - r) : fin r s = s := run_yes _ h
theorem zero_ok {r : Int} (hr : r ≤ 18446744073709551615) : wd 0 ≤ 18446744073709551615 - r := by rw [wd_zero]; omega
theorem run_no {r s : Int} {j k : Nat} (e : k + 1 = j) (h : ¬ wd s ≤ 18446744073709551615 - r) : run r j s = run r k (nx s) := by
  subst e; rw [run_succ, if_neg h]
theorem fin_no {r s : Int} (hs : St s) (hr : r ≤ 18446744073709551615) (h : ¬ wd s ≤ 18446744073709551615 - r) : fin r s = fin r (nx s) ∧ left (nx s) < left s := by
  have h0 : left s ≠ 0 := fun h0 => h (left_nil hs h0 ▸ zero_ok hr)
  have h1 := left_nx hs h0
  exact ⟨run_no h1 h, Nat.lt_of_succ_le (Nat.le_of_eq h1)⟩
theorem run_st {r : Int} : ∀ (k : Nat) {s : Int}, St s → St (run r k s)
  | 0, _, h => h
  | k + 1, s, h => by unfold run; split; exact h; exact run_st k (nx_st s)
theorem fin_st {r s : Int} (h : St s) : St (fin r s) := run_st _ h
/-- The words that are not taken. -/
def rst (n : Int) : Int := 18446744073709551616 % n
theorem rst_b {n : Int} (h1 : 1 ≤ n) (h2 : n ≤ 4611686018427387904) : 0 ≤ rst n ∧ rst n < n ∧ rst n ≤ 18446744073709551615 := by
  unfold rst
  have a := Int.emod_nonneg 18446744073709551616 (show n ≠ 0 by omega)
  have b := Int.emod_lt_of_pos 18446744073709551616 (show 0 < n by omega)
  omega
theorem rst_code {n : Int} (h1 : 1 ≤ n) (h2 : n ≤ 4611686018427387904) : (IntKind.u64.wrap (-n)) % n = rst n := by
  unfold rst
  rw [show IntKind.u64.wrap (-n) = 18446744073709551616 - n by rw [IntKind.wrap_u64]; omega]
  exact Int.sub_emod_right _ _
theorem rst_ref {n : Int} : (18446744073709551615 % n + 1) % n = rst n := by
  unfold rst
  rw [Int.emod_add_emod]
  rfl
/-- The state after a number less than n, and the number. -/
def numS (n s : Int) : Int := fin (rst n) (nx s)
def numV (n s : Int) : Int := wd (numS n s) % n
end Go.Proofs.Ytmidoicbbgdchaa
