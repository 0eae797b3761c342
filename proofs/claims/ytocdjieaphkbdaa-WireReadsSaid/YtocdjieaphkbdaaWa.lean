/- Package wire: the group encoding, and how it is read: numbers alone. -/
import Derived.Test.YtocdjieaphkbdaaRows
import Derived.WalkKit
import Derived.WalkSpells
import Derived.WalkLawsBesides
import Derived.Lib.Hide
import Derived.Deep.QuietTactic
import Derived.BigQuiet
import Derived.RowKit3
import Derived.ProofKit
import Derived.OpenShut
import Derived.Laws.Closers25b
import Derived.RegionTactic
namespace Go.Proofs.Ytocdjieaphkbdaa
open Go.RowKit

/-- Element k of a list of numbers. -/
def at_ (v : List Int) (k : Nat) : Int := v[k]?.getD 0
/-- A byte. -/
def By (x : Int) : Prop := 0 ≤ x ∧ x < 256
def Bys8 (ds : List Int) : Prop := ∀ x ∈ ds, By x
/-- The group encoding of a number. -/
def grp (n : Nat) : List Int := if n < 128 then [(n : Int)] else ((n % 128 + 128 : Nat) : Int) :: grp (n / 128)
termination_by n
decreasing_by omega
theorem grp_lt {n : Nat} (h : n < 128) : grp n = [(n : Int)] := by rw [grp, if_pos h]
theorem grp_ge {n : Nat} (h : 128 ≤ n) : grp n = ((n % 128 + 128 : Nat) : Int) :: grp (n / 128) := by rw [grp, if_neg (by omega)]
theorem grp_len : ∀ (k n : Nat), n < 128 ^ (k + 1) → (grp n).length ≤ k + 1
  | 0, n, h => by rw [grp_lt (by omega)]; simp
  | k + 1, n, h => by
    rcases Nat.lt_or_ge n 128 with g | g
    · rw [grp_lt g]; simp
    · rw [grp_ge g]
      have := grp_len k (n / 128) (by rw [Nat.pow_succ] at h; omega)
      simp only [List.length_cons]
      omega
theorem grp_pos (n : Nat) : 0 < (grp n).length := by
  rcases Nat.lt_or_ge n 128 with g | g
  · rw [grp_lt g]; simp
  · rw [grp_ge g]; simp
theorem grp_len10 {n : Nat} (h : n < 18446744073709551616) : (grp n).length ≤ 10 := grp_len 9 n (Nat.lt_of_lt_of_le h (by decide))
theorem grp_len9 {n : Nat} (h : n < 9223372036854775808) : (grp n).length ≤ 9 := grp_len 8 n (Nat.lt_of_lt_of_le h (by decide))
theorem grp_len3 {n : Nat} (h : n < 2097152) : (grp n).length ≤ 3 := grp_len 2 n (Nat.lt_of_lt_of_le h (by decide))
theorem grp_by : ∀ (n : Nat), Bys8 (grp n) := by
  intro n
  induction n using Nat.strongRecOn with
  | _ n ih =>
    rcases Nat.lt_or_ge n 128 with g | g
    · rw [grp_lt g]
      intro x hx
      simp only [List.mem_singleton] at hx
      subst hx
      exact ⟨by omega, by omega⟩
    · rw [grp_ge g]
      intro x hx
      rcases List.mem_cons.1 hx with rfl | hx
      · exact ⟨by omega, by omega⟩
      · exact ih (n / 128) (by omega) x hx

/-- What comes of reading: an error, or a value and the number of bytes read. -/
inductive Rd (α : Type) where
  | bad (e : Nat)
  | good (v : α) (k : Nat)
/-- Reading a group encoding: at most k bytes more; i have been read, which say n. -/
def ung : Nat → Nat → Nat → List Int → Rd Nat
  | 0, _, _, _ => .bad 6
  | _ + 1, _, _, [] => .bad 4
  | k + 1, i, n, c :: r =>
    if 18446744073709551616 ≤ c.toNat % 128 * 128 ^ i then .bad 6
    else if c = 0 ∧ 0 < i then .bad 6
    else if c < 128 then .good (n + c.toNat % 128 * 128 ^ i) (i + 1)
    else ung k (i + 1) (n + c.toNat % 128 * 128 ^ i) r
/-- How far it has read. -/
theorem ung_le : ∀ (k i n : Nat) (l : List Int) (v m : Nat), ung k i n l = .good v m → i < m ∧ m ≤ i + l.length ∧ m ≤ i + k
  | 0, _, _, _, _, _, h => by simp [ung] at h
  | _ + 1, _, _, [], _, _, h => by simp [ung] at h
  | k + 1, i, n, c :: r, v, m, h => by
    unfold ung at h
    split at h
    · cases h
    split at h
    · cases h
    split at h
    · injection h with h1 h2
      simp only [List.length_cons]
      omega
    · have := ung_le k (i + 1) _ r v m h
      simp only [List.length_cons]
      omega
theorem pow128 (i : Nat) : 128 ^ (i + 1) = 128 * 128 ^ i := by rw [Nat.pow_succ, Nat.mul_comm]
/-- How great the number is. -/
theorem ung_lt : ∀ (k i n : Nat) (l : List Int) (v m : Nat), n < 128 ^ i → ung k i n l = .good v m → v < 128 ^ (i + k)
  | 0, _, _, _, _, _, _, h => by simp [ung] at h
  | _ + 1, _, _, [], _, _, _, h => by simp [ung] at h
  | k + 1, i, n, c :: r, v, m, hn, h => by
    have hp := pow128 i
    have hm : c.toNat % 128 * 128 ^ i ≤ 127 * 128 ^ i := Nat.mul_le_mul_right _ (by omega)
    have hq : 128 ^ (i + 1) ≤ 128 ^ (i + (k + 1)) := Nat.pow_le_pow_right (by decide) (by omega)
    unfold ung at h
    split at h
    · cases h
    split at h
    · cases h
    split at h
    · injection h with h1 h2
      omega
    · have := ung_lt k (i + 1) _ r v m (by omega) h
      rwa [show i + 1 + k = i + (k + 1) by omega] at this
theorem dvd128 {i : Nat} (h : i ≤ 9) : ∃ q, 18446744073709551616 = q * 128 ^ i := by
  have : ∀ i : Fin 10, 18446744073709551616 = (18446744073709551616 / 128 ^ i.val) * 128 ^ i.val := by decide
  exact ⟨_, this ⟨i, by omega⟩⟩
theorem mul_lt_step {g q X : Nat} (h : g * X < q * X) : g * X + X ≤ q * X := by
  have : g < q := Nat.lt_of_mul_lt_mul_right h
  calc g * X + X = (g + 1) * X := by rw [Nat.add_mul, Nat.one_mul]
    _ ≤ q * X := Nat.mul_le_mul_right _ this
theorem ung_lt64 : ∀ (k i n : Nat) (l : List Int) (v m : Nat), i + k ≤ 10 → n < 128 ^ i → ung k i n l = .good v m → v < 18446744073709551616
  | 0, _, _, _, _, _, _, _, h => by simp [ung] at h
  | _ + 1, _, _, [], _, _, _, _, h => by simp [ung] at h
  | k + 1, i, n, c :: r, v, m, hi, hn, h => by
    have hp := pow128 i
    have hm : c.toNat % 128 * 128 ^ i ≤ 127 * 128 ^ i := Nat.mul_le_mul_right _ (by omega)
    obtain ⟨q, hq⟩ := dvd128 (i := i) (by omega)
    unfold ung at h
    split at h
    · cases h
    split at h
    · cases h
    split at h
    · injection h with h1 h2
      rename_i h3 _ _
      have := mul_lt_step (g := c.toNat % 128) (q := q) (X := 128 ^ i) (by omega)
      omega
    · exact ung_lt64 k (i + 1) _ r v m (by omega) (by omega) h
/-- What is written is read. -/
theorem ung_grp : ∀ (k i n x : Nat) (r : List Int), x < 128 ^ (k + 1) → x * 128 ^ i < 18446744073709551616 → (0 < i → 0 < x) → ung (k + 1) i n (grp x ++ r) = .good (n + x * 128 ^ i) (i + (grp x).length) := by
  intro k
  induction k with
  | zero =>
    intro i n x r h h1 hx
    have g : x < 128 := by omega
    rw [grp_lt g]
    show ung 1 i n ((x : Int) :: r) = _
    unfold ung
    rw [Int.toNat_natCast, Nat.mod_eq_of_lt g, if_neg (by omega), if_neg (by omega), if_pos (by omega)]
    simp
  | succ k ih =>
    intro i n x r h h1 hx
    rcases Nat.lt_or_ge x 128 with g | g
    · rw [grp_lt g]
      show ung (k + 2) i n ((x : Int) :: r) = _
      unfold ung
      rw [Int.toNat_natCast, Nat.mod_eq_of_lt g, if_neg (by omega), if_neg (by omega), if_pos (by omega)]
      simp
    · have hm : x % 128 * 128 ^ i ≤ x * 128 ^ i := Nat.mul_le_mul_right _ (Nat.mod_le _ _)
      have he : x * 128 ^ i = x % 128 * 128 ^ i + x / 128 * 128 ^ (i + 1) := by
        rw [pow128, ← Nat.mul_assoc, ← Nat.add_mul]
        congr 1
        omega
      have h' : x / 128 < 128 ^ (k + 1) := by rw [pow128] at h; omega
      rw [grp_ge g]
      show ung (k + 2) i n (((x % 128 + 128 : Nat) : Int) :: (grp (x / 128) ++ r)) = _
      unfold ung
      rw [Int.toNat_natCast, Nat.add_mod_right, Nat.mod_mod, if_neg (by omega), if_neg (by omega), if_neg (by omega), ih (i + 1) _ (x / 128) r h' (by omega) (by omega)]
      simp only [List.length_cons]
      congr 1 <;> omega
/-- What is read is written so. -/
theorem grp_ung : ∀ (k i n : Nat) (l : List Int) (v m : Nat), Bys8 l → ung k i n l = .good v m → ∃ x, v = n + x * 128 ^ i ∧ i ≤ m ∧ l.take (m - i) = grp x ∧ (0 < i → 0 < x)
  | 0, _, _, _, _, _, _, h => by simp [ung] at h
  | _ + 1, _, _, [], _, _, _, h => by simp [ung] at h
  | k + 1, i, n, c :: r, v, m, hb, h => by
    have hc := hb c (List.mem_cons_self ..)
    unfold By at hc
    unfold ung at h
    split at h
    · cases h
    rename_i h1
    split at h
    · cases h
    rename_i h2
    split at h
    · rename_i h3
      injection h with h4 h5
      refine ⟨c.toNat, ?_, by omega, ?_, by omega⟩
      · rw [← h4, Nat.mod_eq_of_lt (by omega)]
      · rw [← h5, Nat.add_sub_cancel_left, grp_lt (by omega)]
        simp
        omega
    · obtain ⟨x, e1, e2, e3, e4⟩ := grp_ung k (i + 1) _ r v m (fun y hy => hb y (List.mem_cons_of_mem _ hy)) h
      have e5 := e4 (by omega)
      refine ⟨c.toNat % 128 + 128 * x, ?_, by omega, ?_, by omega⟩
      · rw [e1, pow128, Nat.add_mul, Nat.add_assoc, Nat.mul_comm 128 x, ← Nat.mul_assoc]
      · rw [grp_ge (by omega), show m - i = (m - (i + 1)) + 1 by omega, List.take_succ_cons, e3]
        congr 1
        · omega
        · congr 1
          omega

/-! ### Reading values -/
/-- The signed number that a number stands for. -/
def unf (v : Nat) : Int := if v % 2 = 1 then -((v / 2 : Nat) : Int) - 1 else ((v / 2 : Nat) : Int)
/-- The number that stands for a signed number. -/
def fold (n : Int) : Nat := if n < 0 then 2 * (-(n + 1)).toNat + 1 else 2 * n.toNat
theorem unf_fold (n : Int) : unf (fold n) = n := by unfold unf fold; split <;> split <;> omega
theorem fold_unf (v : Nat) : fold (unf v) = v := by unfold unf fold; split <;> split <;> omega
theorem fold_lt {n : Int} (h1 : -9223372036854775808 ≤ n) (h2 : n ≤ 9223372036854775807) : fold n < 18446744073709551616 := by unfold fold; split <;> omega
theorem unf_b {v : Nat} (h : v < 18446744073709551616) : -9223372036854775808 ≤ unf v ∧ unf v ≤ 9223372036854775807 := by unfold unf; split <;> omega
def rUint (l : List Int) : Rd Nat := ung 9 0 0 l
def rInt (l : List Int) : Rd Int := match ung 10 0 0 l with | .bad e => .bad e | .good v k => .good (unf v) k
def rBool (l : List Int) : Rd Bool := match l with | [] => .bad 4 | c :: _ => if 1 < c then .bad 6 else .good (decide (c = 1)) 1
def rCount (l : List Int) (lim : Int) : Rd Nat := match rUint l with | .bad e => .bad e | .good n k => if lim < 0 then .bad 2 else if lim < (n : Int) then .bad 7 else .good n k
def rText (l : List Int) (lim : Int) : Rd (List Int) := match rCount l lim with | .bad e => .bad e | .good n k => if l.length < k + n then .bad 4 else .good ((l.drop k).take n) (k + n)
def lst : Nat → List Int → Nat → List Int → Rd (List Int)
  | 0, acc, k, _ => .good acc k
  | n + 1, acc, k, l => match rInt (l.drop k) with | .bad e => .bad e | .good v d => lst n (acc ++ [v]) (k + d) l
def rList (l : List Int) (lim : Int) : Rd (List Int) := match rCount l lim with | .bad e => .bad e | .good n k => lst n [] k l
theorem rUint_le {l : List Int} {v m : Nat} (h : rUint l = .good v m) : 0 < m ∧ m ≤ l.length ∧ v < 9223372036854775808 := by
  have h1 := ung_le 9 0 0 l v m h
  have h2 := ung_lt 9 0 0 l v m (by decide) h
  exact ⟨h1.1, by omega, Nat.lt_of_lt_of_le h2 (by decide)⟩
theorem rInt_le {l : List Int} {v : Int} {m : Nat} (h : rInt l = .good v m) : 0 < m ∧ m ≤ l.length ∧ -9223372036854775808 ≤ v ∧ v ≤ 9223372036854775807 := by
  unfold rInt at h
  split at h
  · cases h
  · rename_i u k hu
    injection h with h1 h2
    have h3 := ung_le 10 0 0 l u k hu
    have h4 := unf_b (ung_lt64 10 0 0 l u k (by decide) (by decide) hu)
    subst h1 h2
    exact ⟨h3.1, by omega, h4⟩
theorem rBool_le {l : List Int} {v : Bool} {m : Nat} (h : rBool l = .good v m) : m = 1 ∧ 1 ≤ l.length := by
  unfold rBool at h
  split at h
  · cases h
  · split at h
    · cases h
    · injection h with h1 h2
      exact ⟨h2.symm, by simp⟩
theorem rCount_le {l : List Int} {lim : Int} {v m : Nat} (h : rCount l lim = .good v m) : rUint l = .good v m ∧ (v : Int) ≤ lim := by
  unfold rCount at h
  split at h
  · cases h
  · rename_i n k hu
    split at h
    · cases h
    · split at h
      · cases h
      · injection h with h1 h2
        subst h1 h2
        exact ⟨hu, by omega⟩
theorem rText_le {l : List Int} {lim : Int} {v : List Int} {m : Nat} (h : rText l lim = .good v m) : ∃ n k, rCount l lim = .good n k ∧ m = k + n ∧ m ≤ l.length ∧ v = (l.drop k).take n := by
  unfold rText at h
  split at h
  · cases h
  · rename_i n k hu
    split at h
    · cases h
    · injection h with h1 h2
      exact ⟨n, k, hu, h2.symm, by omega, h1.symm⟩
theorem lst_le : ∀ (n : Nat) (acc : List Int) (k : Nat) (l v : List Int) (m : Nat), k ≤ l.length → lst n acc k l = .good v m → k ≤ m ∧ m ≤ l.length ∧ v.length = acc.length + n
  | 0, acc, k, l, v, m, hk, h => by
    unfold lst at h
    injection h with h1 h2
    subst h1 h2
    exact ⟨Nat.le_refl _, hk, rfl⟩
  | n + 1, acc, k, l, v, m, hk, h => by
    unfold lst at h
    split at h
    · cases h
    · rename_i u d hu
      have h1 := rInt_le hu
      rw [List.length_drop] at h1
      have h2 := lst_le n _ (k + d) l v m (by omega) h
      rw [List.length_append, List.length_singleton] at h2
      omega
end Go.Proofs.Ytocdjieaphkbdaa
