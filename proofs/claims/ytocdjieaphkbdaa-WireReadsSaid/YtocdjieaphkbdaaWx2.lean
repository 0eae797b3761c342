/- law06's equal; what is written is read. -/
import Derived.Test.YtocdjieaphkbdaaWx1
import Derived.Test.YtocdjieaphkbdaaWt
namespace Go.Proofs.Ytocdjieaphkbdaa
open Go.RowKit

set_option maxRecDepth 100000 in
set_option maxHeartbeats 1000000 in
theorem equal_any {w : World} {P P' : Nat → Prop} {x y : Value} {ds : List Int} (hx : Rw w P .i64 x ds) (hy : Rw w P' .i64 y ds) (hn : ds.length < 10000) :
    Calls Try.prog 28 #[x, y] w fun e w' => e = .returned (.bool true) ∧ Ch No w w' := by
  obtain ⟨A, c, rfl, -⟩ := hx.shape
  obtain ⟨A', c', rfl, -⟩ := hy.shape
  have H1 := Lib.hid hx
  have H2 := Lib.hid hy
  clear hx hy
  obtain ⟨n, hl⟩ : ∃ n, n = ds.length := ⟨_, rfl⟩
  rw [← hl] at H1 H2 hn ⊢
  have HL := Lib.hid hl
  clear hl
  go_enter Try.func28, Try.ntmps28
  go_wp2_with (fail)
  go_loopw [5] (fun i wr => ∃ k : Nat, k ≤ n ∧ i = .int .i64 k ∧ Hid (Ch No w wr)) (fun i _ => n - (intOf i).toNat)
  case atStart => exact ⟨0, by omega, rfl, Lib.hid (Ch.refl _ _)⟩
  case round =>
    obtain ⟨k, hk, rfl, hc⟩ := hrel
    by_cases gk : k < n
    · have gI : (k : Int) < (n : Int) := by omega
      obtain ⟨b, o, rfl, -, -, q1⟩ := H1.out.at (by rw [← HL.out]; omega)
      obtain ⟨b', o', rfl, -, -, q2⟩ := H2.out.at (by rw [← HL.out]; omega)
      have c1 := hc.out.cell (q1 k (by rw [← HL.out]; exact gk)) (fun h => h)
      have c2 := hc.out.cell (q2 k (by rw [← HL.out]; exact gk)) (fun h => h)
      have HC := hc
      generalize at_ ds k = xk at *
      clear q1 q2 hc
      go_wp2_with (fail)
      go_region
      all_goals
        go_wp2_with (fail)
        go_roundw
        case rel => exact ⟨k + 1, by omega, by go_num, Lib.hid HC.out.drew⟩
        case measure => simp [intOf]; omega
    · obtain rfl : k = n := by omega
      have HC := hc
      clear hc
      go_wp2_with (fail)
      go_ret
      exact ⟨rfl, HC.out⟩
/-! ### What is written is read -/
theorem rText_enc {bs r : List Int} {lim : Int} (h1 : (bs.length : Int) ≤ lim) (h2 : bs.length < 1000000) : rText (grp bs.length ++ bs ++ r) lim = .good bs (grp bs.length ++ bs).length := by
  have h3 : rCount (grp bs.length ++ bs ++ r) lim = .good bs.length (grp bs.length).length := by
    unfold rCount
    rw [List.append_assoc, rUint_grp (by omega)]
    simp only
    rw [if_neg (by omega), if_neg (by omega)]
  unfold rText
  rw [h3]
  simp only
  rw [if_neg (by simp only [List.length_append]; omega), List.append_assoc, List.drop_left, List.take_left, List.length_append]
theorem lst_enc : ∀ (l : List Int) (acc : List Int) (k : Nat) (L r : List Int), I64s l → L.drop k = intsL l ++ r → lst l.length acc k L = .good (acc ++ l) (k + (intsL l).length)
  | [], acc, k, L, r, _, _ => by simp [lst, intsL]
  | z :: l, acc, k, L, r, hi, h => by
    have e : intsL (z :: l) = grp (fold z) ++ intsL l := rfl
    obtain ⟨i1, i2⟩ := hi z (List.mem_cons_self ..)
    have h1 : rInt (L.drop k) = .good z (grp (fold z)).length := by rw [h, e, List.append_assoc]; exact rInt_grp i1 i2 _
    have h2 : L.drop (k + (grp (fold z)).length) = intsL l ++ r := by rw [← List.drop_drop, h, e, List.append_assoc, List.drop_left]
    rw [List.length_cons, lst_next h1, lst_enc l _ _ L r (fun y hy => hi y (List.mem_cons_of_mem _ hy)) h2, e, List.append_assoc, List.length_append, Nat.add_assoc]
    rfl
theorem rList_enc {l r : List Int} {lim : Int} (hi : I64s l) (h1 : (l.length : Int) ≤ lim) (h2 : l.length < 1000000) : rList (grp l.length ++ intsL l ++ r) lim = .good l (grp l.length ++ intsL l).length := by
  have h3 : rCount (grp l.length ++ intsL l ++ r) lim = .good l.length (grp l.length).length := by
    unfold rCount
    rw [List.append_assoc, rUint_grp (by omega)]
    simp only
    rw [if_neg (by omega), if_neg (by omega)]
  unfold rList
  rw [h3]
  simp only
  rw [lst_enc l [] _ _ r hi (by rw [List.append_assoc, List.drop_left]), List.nil_append, List.length_append]
theorem WV.enc_by {v : WV} (h : Bys8 v.text) : Bys8 v.enc := by
  unfold WV.enc
  split
  · exact grp_by _
  split
  · exact grp_by _
  split
  · intro x hx
    simp only [List.mem_singleton] at hx
    subst hx
    split <;> exact ⟨by decide, by decide⟩
  split
  · intro x hx
    rcases List.mem_append.1 hx with hx | hx
    · exact grp_by _ x hx
    · exact h x hx
  · intro x hx
    rcases List.mem_append.1 hx with hx | hx
    · exact grp_by _ x hx
    · obtain ⟨z, _, hz⟩ := List.mem_flatMap.1 hx
      exact grp_by _ x hz
theorem WV.enc_len {v : WV} (hn : -9223372036854775808 ≤ v.num ∧ v.num ≤ 9223372036854775807) (hi : I64s v.list) (h1 : v.text.length ≤ 200) (h2 : v.list.length ≤ 50) : v.enc.length ≤ 510 := by
  unfold WV.enc
  split
  · have := grp_len10 (n := v.num.toNat) (by omega); omega
  split
  · have := grp_len10 (fold_lt hn.1 hn.2); omega
  split
  · simp
  split
  · have := grp_len10 (n := v.text.length) (by omega); rw [List.length_append]; omega
  · have := grp_len10 (n := v.list.length) (by omega); have := (intsL_len v.list hi).2; rw [List.length_append]; omega
/-- The encodings of the first values. -/
def encs (vl : Nat → WV) (k : Nat) : List Int := (List.range k).flatMap fun i => (vl i).enc
theorem encs_succ (vl : Nat → WV) (k : Nat) : encs vl (k + 1) = encs vl k ++ (vl k).enc := by simp [encs, List.range_succ]
theorem encs_split (vl : Nat → WV) {k n : Nat} (h : k ≤ n) : ∃ r, encs vl n = encs vl k ++ r := by
  obtain ⟨d, rfl⟩ := Nat.exists_eq_add_of_le h
  clear h
  induction d with
  | zero => exact ⟨[], by simp⟩
  | succ d ih =>
    obtain ⟨r, hr⟩ := ih
    exact ⟨r ++ (vl (k + d)).enc, by rw [← Nat.add_assoc, encs_succ, hr, List.append_assoc]⟩
theorem encs_drop (vl : Nat → WV) {k n : Nat} (h : k < n) : ∃ r, (encs vl n).drop (encs vl k).length = (vl k).enc ++ r := by
  obtain ⟨r, hr⟩ := encs_split vl (show k + 1 ≤ n from h)
  exact ⟨r, by rw [hr, encs_succ, List.append_assoc, List.drop_left]⟩
theorem encs_len {vl : Nat → WV} {n : Nat} (h : ∀ i, i < n → (vl i).enc.length ≤ 510) : ∀ k, k ≤ n → (encs vl k).length ≤ 510 * k
  | 0, _ => by simp [encs]
  | k + 1, hk => by
    have h1 := encs_len h k (by omega)
    have h2 := h k (by omega)
    rw [encs_succ, List.length_append]
    omega
theorem encs_by {vl : Nat → WV} {n : Nat} (h : ∀ i, i < n → Bys8 (vl i).enc) : ∀ k, k ≤ n → Bys8 (encs vl k)
  | 0, _ => by intro x hx; simp [encs] at hx
  | k + 1, hk => by
    rw [encs_succ]
    intro x hx
    rcases List.mem_append.1 hx with hx | hx
    · exact encs_by h k (by omega) x hx
    · exact h k (by omega) x hx
end Go.Proofs.Ytocdjieaphkbdaa
