/- The chapter's examples, as numbers. -/
import Derived.Test.YtocdjieaphkbdaaWq
namespace Go.Proofs.Ytocdjieaphkbdaa
open Go.RowKit

def grpF : Nat → Nat → List Int
  | 0, n => [(n : Int)]
  | k + 1, n => if n < 128 then [(n : Int)] else ((n % 128 + 128 : Nat) : Int) :: grpF k (n / 128)
theorem grp_F : ∀ (k n : Nat), n < 128 ^ (k + 1) → grp n = grpF k n
  | 0, n, h => grp_lt (by omega)
  | k + 1, n, h => by
    unfold grpF
    split
    · rename_i g; exact grp_lt g
    · rename_i g
      rw [grp_ge (by omega), grp_F k (n / 128) (by rw [Nat.pow_succ] at h; omega)]
/-- The writer's states in the examples. -/
theorem kn1 : wUint ⟨0, []⟩ 300 = ⟨0, [172, 2]⟩ := by unfold wUint; rw [if_neg (by omega), grp_F 9 _ (by decide)]; rfl
theorem kn2 : wInt ⟨0, [172, 2]⟩ (-64) = ⟨0, [172, 2, 127]⟩ := by unfold wInt; rw [grp_F 9 _ (by decide)]; rfl
theorem kn3 : wInt ⟨0, [172, 2, 127]⟩ (-9223372036854775808) = ⟨0, [172, 2, 127, 255, 255, 255, 255, 255, 255, 255, 255, 255, 1]⟩ := by unfold wInt; rw [grp_F 9 _ (by decide)]; rfl
theorem kn4 : wBool ⟨0, [172, 2, 127, 255, 255, 255, 255, 255, 255, 255, 255, 255, 1]⟩ true = ⟨0, [172, 2, 127, 255, 255, 255, 255, 255, 255, 255, 255, 255, 1, 1]⟩ := by rfl
theorem kn5 : wBytes ⟨0, [172, 2, 127, 255, 255, 255, 255, 255, 255, 255, 255, 255, 1, 1]⟩ (numsOf ⟨#[97, 98]⟩) = ⟨0, [172, 2, 127, 255, 255, 255, 255, 255, 255, 255, 255, 255, 1, 1, 2, 97, 98]⟩ := by
  unfold wBytes; rw [grp_F 9 _ (by decide)]; rfl
theorem kn6 : wInts ⟨0, [172, 2, 127, 255, 255, 255, 255, 255, 255, 255, 255, 255, 1, 1, 2, 97, 98]⟩ [1, -1] = ⟨0, [172, 2, 127, 255, 255, 255, 255, 255, 255, 255, 255, 255, 1, 1, 2, 97, 98, 2, 2, 1]⟩ := by
  have e : intsL [1, -1] = [2, 1] := by
    show grp (fold 1) ++ (grp (fold (-1)) ++ []) = _
    rw [grp_F 9 (fold 1) (by decide), grp_F 9 (fold (-1)) (by decide)]
    rfl
  unfold wInts
  rw [grp_F 9 _ (by decide), e]
  rfl
theorem kn7 : frameW 5 [120] = ⟨0, [5, 1, 120]⟩ := by
  have e : wUint ⟨0, []⟩ 5 = ⟨0, [5]⟩ := by unfold wUint; rw [if_neg (by omega), grp_F 9 _ (by decide)]; rfl
  unfold frameW
  rw [e]
  unfold wBytes
  rw [grp_F 9 _ (by decide)]
  rfl
theorem kn8 : rUint [128, 0] = .bad 6 := by rfl
theorem kn9 : rUint [5, 255] = .good 5 1 := by rfl
theorem kn10 : rUint [255] = .bad 4 := by rfl
theorem kn11 : rText [2, 97, 98] 1 = .bad 7 := by rfl
end Go.Proofs.Ytocdjieaphkbdaa
