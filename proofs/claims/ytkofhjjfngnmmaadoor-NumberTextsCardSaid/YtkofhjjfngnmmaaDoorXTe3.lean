/- Parse of a Text. -/
import Derived.Test.YtkofhjjfngnmmaaDoorXTe2
namespace Go.Proofs.YtkofhjjfngnmmaaDoor
open Go.RowKit

theorem dig_toNat {d : Nat} (h : d < 10) : (UInt8.ofNat (48 + d)).toNat = 48 + d := (UInt8.toNat_ofNat' (n := 48 + d)).trans (Nat.mod_eq_of_lt (by omega))
theorem digB_dig {d : Nat} (h : d < 10) : digB (UInt8.ofNat (48 + d)) = true := by
  unfold digB
  rw [dig_toNat h, Bool.and_eq_true, decide_eq_true_eq, decide_eq_true_eq]; omega
theorem dec_all (u : Nat) : (Lib.decDigits u).all digB = true := by
  induction u using Nat.strongRecOn with
  | _ u ih =>
    rw [Lib.decDigits]
    by_cases h : u < 10
    · rw [dif_pos h, List.all_cons, digB_dig h]; rfl
    · rw [dif_neg h, List.all_append, ih (u / 10) (by omega)]
      rw [List.all_cons, digB_dig (Nat.mod_lt u (by omega : 0 < 10))]; rfl
theorem dec_val (u : Nat) : decV (Lib.decDigits u) = u := by
  induction u using Nat.strongRecOn with
  | _ u ih =>
    have e : ∀ d, d < 10 → (UInt8.ofNat (48 + d)).toNat - 48 = d := fun d hd => by
      rw [dig_toNat hd]; omega
    rw [Lib.decDigits]
    by_cases h : u < 10
    · rw [dif_pos h]
      show 0 * 10 + ((UInt8.ofNat (48 + u)).toNat - 48) = u
      rw [e u h]; omega
    · rw [dif_neg h, decV_snoc, ih (u / 10) (by omega), e _ (Nat.mod_lt u (by omega : 0 < 10))]; omega
theorem dec_head (u : Nat) : ∃ c t, Lib.decDigits u = c :: t ∧ (c.toNat = 48 → t = [] ∧ u = 0) ∧ c.toNat ≠ 45 := by
  induction u using Nat.strongRecOn with
  | _ u ih =>
    rw [Lib.decDigits]
    by_cases h : u < 10
    · rw [dif_pos h]
      have e : (UInt8.ofNat (48 + u)).toNat = 48 + u := dig_toNat h
      exact ⟨_, [], rfl, fun hc => ⟨rfl, by omega⟩, by omega⟩
    · rw [dif_neg h]
      obtain ⟨c, t, e, h1, h2⟩ := ih (u / 10) (by omega)
      exact ⟨c, t ++ [UInt8.ofNat (48 + u % 10)], by rw [e]; rfl, fun hc => by have := (h1 hc).2; omega, h2⟩
theorem dec_B (u : Nat) : decB (Lib.decDigits u) = true := by
  obtain ⟨c, t, e, h1, h2⟩ := dec_head u
  have ha := dec_all u
  rw [e] at ha ⊢
  rw [decB_loop (fun h => h.2 (h1 h.1).1)]
  exact ha
theorem dec_48 {u : Nat} (h : u ≠ 0) : Lib.decDigits u ≠ [48] := fun e => by
  have := dec_val u
  rw [e] at this
  exact h (this.symm.trans rfl)
theorem itoa_par (z : Int) (h : fits z.natAbs = true) : parZ (Lib.itoa z) = z ∧ parE (Lib.itoa z) = 0 := by
  by_cases hz : z < 0
  · have e : Lib.itoa z = 45 :: Lib.decDigits z.natAbs := by unfold Lib.itoa; rw [if_pos hz]
    have p := parD_minus (Lib.decDigits z.natAbs)
    have hok : parOk (Lib.itoa z) = true := by
      rw [e]; unfold parOk
      rw [p.1, p.2, dec_B]
      simp [dec_48 (show z.natAbs ≠ 0 by omega)]
    unfold parZ parE
    rw [hok, e, p.1, p.2, dec_val, h]
    simp [sgn]
    omega
  · have e : Lib.itoa z = Lib.decDigits z.natAbs := by unfold Lib.itoa; rw [if_neg hz]; congr 1; omega
    obtain ⟨c, t, e2, h1, h2⟩ := dec_head z.natAbs
    have p := parD_plain (t := t) h2
    rw [← e2] at p
    have hok : parOk (Lib.itoa z) = true := by
      rw [e]; unfold parOk
      rw [p.1, p.2, dec_B]
      simp
    unfold parZ parE
    rw [hok, e, p.1, p.2, dec_val, h]
    simp [sgn]
    omega
end Go.Proofs.YtkofhjjfngnmmaaDoor
