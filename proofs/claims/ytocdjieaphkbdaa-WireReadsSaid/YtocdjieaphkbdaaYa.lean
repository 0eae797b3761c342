/- Reading, whatever comes: what is read is what was written. -/
import Derived.Test.YtocdjieaphkbdaaWx2
import Derived.Test.YtocdjieaphkbdaaWv
namespace Go.Proofs.Ytocdjieaphkbdaa
open Go.RowKit

theorem rUint_can {l : List Int} {v m : Nat} (hb : Bys8 l) (h : rUint l = .good v m) : l.take m = grp v := by
  obtain ⟨x, e, -, h2, -⟩ := grp_ung 9 0 0 l v m hb h
  rw [Nat.zero_add, Nat.pow_zero, Nat.mul_one] at e
  rw [Nat.sub_zero] at h2
  rw [h2, e]
theorem rInt_can {l : List Int} {v : Int} {m : Nat} (hb : Bys8 l) (h : rInt l = .good v m) : l.take m = grp (fold v) := by
  unfold rInt at h
  split at h
  · cases h
  · rename_i u k hu
    injection h with h1 h2
    subst h1 h2
    obtain ⟨x, e, -, h2, -⟩ := grp_ung 10 0 0 l u k hb hu
    rw [Nat.zero_add, Nat.pow_zero, Nat.mul_one] at e
    rw [Nat.sub_zero] at h2
    rw [h2, ← e, fold_unf]
theorem rBool_can {l : List Int} {v : Bool} {m : Nat} (hb : Bys8 l) (h : rBool l = .good v m) : l.take m = [if v then 1 else 0] := by
  cases l with
  | nil => cases h
  | cons c r =>
    have hc := hb c (List.mem_cons_self ..)
    unfold By at hc
    unfold rBool at h
    simp only at h
    split at h
    · cases h
    · injection h with h1 h2
      subst h1 h2
      rcases (by omega : c = 0 ∨ c = 1) with rfl | rfl <;> simp
theorem bys_drop {l : List Int} (h : Bys8 l) (k : Nat) : Bys8 (l.drop k) := fun x hx => h x (List.mem_of_mem_drop hx)
theorem rText_can {l v : List Int} {lim : Int} {m : Nat} (hb : Bys8 l) (h : rText l lim = .good v m) : l.take m = grp v.length ++ v ∧ (v.length : Int) ≤ lim := by
  obtain ⟨n, k, hc, rfl, hle, rfl⟩ := rText_le h
  obtain ⟨hu, hl⟩ := rCount_le hc
  have h1 := rUint_can hb hu
  have hlen : ((l.drop k).take n).length = n := by rw [List.length_take, List.length_drop]; omega
  rw [hlen, List.take_add, h1]
  exact ⟨rfl, hl⟩
theorem lst_can : ∀ (n : Nat) (acc : List Int) (k : Nat) (l v : List Int) (m : Nat), Bys8 l → k ≤ l.length → lst n acc k l = .good v m → ∃ t, v = acc ++ t ∧ t.length = n ∧ I64s t ∧ k ≤ m ∧ l.take m = l.take k ++ intsL t
  | 0, acc, k, l, v, m, _, _, h => by
    unfold lst at h
    injection h with h1 h2
    subst h1 h2
    exact ⟨[], by simp, rfl, fun x hx => by simp at hx, Nat.le_refl _, by simp [intsL]⟩
  | n + 1, acc, k, l, v, m, hb, hk, h => by
    unfold lst at h
    split at h
    · cases h
    · rename_i u d hu
      have hc := rInt_can (bys_drop hb k) hu
      have hle := rInt_le hu
      rw [List.length_drop] at hle
      obtain ⟨t, e, hl, hi, hkm, ht⟩ := lst_can n _ (k + d) l v m hb (by omega) h
      refine ⟨u :: t, by rw [e, List.append_assoc]; rfl, by rw [List.length_cons, hl], fun x hx => ?_, by omega, ?_⟩
      · rcases List.mem_cons.1 hx with rfl | hx
        · exact hle.2.2
        · exact hi x hx
      · rw [ht, List.take_add, hc, List.append_assoc]
        rfl
theorem rList_can {l v : List Int} {lim : Int} {m : Nat} (hb : Bys8 l) (h : rList l lim = .good v m) : l.take m = grp v.length ++ intsL v ∧ (v.length : Int) ≤ lim ∧ I64s v := by
  unfold rList at h
  split at h
  · cases h
  · rename_i n k hc
    obtain ⟨hu, hl⟩ := rCount_le hc
    have h1 := rUint_can hb hu
    have h2 := rUint_le hu
    obtain ⟨t, e, hlen, hi, -, ht⟩ := lst_can n [] k l v m hb h2.2.1 h
    rw [List.nil_append] at e
    subst e
    rw [hlen, ht, h1]
    exact ⟨rfl, hl, hi⟩
/-- How the reader has moved: what it read is enc. -/
def Nx (bd : List Int) (er : Int) (k : Nat) (er' : Int) (k' : Nat) (enc : List Int) : Prop := er' = 0 → er = 0 ∧ bd.take k' = bd.take k ++ enc
theorem nx_bad {bd enc : List Int} {er er' : Int} {k k' : Nat} (h : ¬ er' = 0) : Nx bd er k er' k' enc := fun e => absurd e h
theorem nx_good {bd enc : List Int} {k m : Nat} (h : (bd.drop k).take m = enc) : Nx bd 0 k 0 (k + m) enc := fun _ => ⟨rfl, by rw [List.take_add, h]⟩
section
variable {w : World} {q n c k : Nat} {A : Option Addr} {bd : List Int} {er : Int}
theorem step_uint (h : RdAt w q A n c bd er k) : Calls Try.prog 22 #[.pointer (some ⟨q, 0, none⟩)] w fun r w' => ∃ (u : Nat) (er' : Int) (k' : Nat), r = .returned (.int .i64 u) ∧ u < 9223372036854775808 ∧ RdAt w' q A n c bd er' k' ∧ Ch (fun i => i = q) w w' ∧ Nx bd er k er' k' (grp u) := by
  by_cases he : er = 0
  · subst he
    have hby := bys_drop h.2.2.2.2.2 k
    refine (ruint_ok  h).mono ?_
    rintro r w' ⟨k1, h1⟩
    cases hR : rUint (bd.drop k) with
    | bad e =>
      rw [hR] at h1
      obtain ⟨rfl, h2⟩ := h1
      exact ⟨0, _, _, rfl, by decide, h2, k1, nx_bad (rUint_err hR)⟩
    | good v m =>
      rw [hR] at h1
      obtain ⟨⟨x, rfl, hx⟩, h2⟩ := h1
      exact ⟨v, _, _, by rw [show x = .int .i64 v from hx], (rUint_le hR).2.2, h2, k1, nx_good (rUint_can hby hR)⟩
  · refine (ruint_err  h he).mono ?_
    rintro r w' ⟨rfl, k1⟩
    exact ⟨0, _, _, rfl, by decide, h.no k1, k1.no, nx_bad he⟩
theorem step_int (h : RdAt w q A n c bd er k) : Calls Try.prog 23 #[.pointer (some ⟨q, 0, none⟩)] w fun r w' => ∃ (u : Int) (er' : Int) (k' : Nat), r = .returned (.int .i64 u) ∧ -9223372036854775808 ≤ u ∧ u ≤ 9223372036854775807 ∧ RdAt w' q A n c bd er' k' ∧ Ch (fun i => i = q) w w' ∧ Nx bd er k er' k' (grp (fold u)) := by
  by_cases he : er = 0
  · subst he
    have hby := bys_drop h.2.2.2.2.2 k
    refine (rint_ok  h).mono ?_
    rintro r w' ⟨k1, h1⟩
    cases hR : rInt (bd.drop k) with
    | bad e =>
      rw [hR] at h1
      obtain ⟨rfl, h2⟩ := h1
      exact ⟨0, _, _, rfl, by decide, by decide, h2, k1, nx_bad (rInt_err hR)⟩
    | good v m =>
      rw [hR] at h1
      obtain ⟨⟨x, rfl, hx⟩, h2⟩ := h1
      exact ⟨v, _, _, by rw [show x = .int .i64 v from hx], (rInt_le hR).2.2.1, (rInt_le hR).2.2.2, h2, k1, nx_good (rInt_can hby hR)⟩
  · refine (rint_err  h he).mono ?_
    rintro r w' ⟨rfl, k1⟩
    exact ⟨0, _, _, rfl, by decide, by decide, h.no k1, k1.no, nx_bad he⟩
theorem step_bool (h : RdAt w q A n c bd er k) : Calls Try.prog 24 #[.pointer (some ⟨q, 0, none⟩)] w fun r w' => ∃ (u : Bool) (er' : Int) (k' : Nat), r = .returned (.bool u) ∧ RdAt w' q A n c bd er' k' ∧ Ch (fun i => i = q) w w' ∧ Nx bd er k er' k' [if u then 1 else 0] := by
  by_cases he : er = 0
  · subst he
    have hby := bys_drop h.2.2.2.2.2 k
    refine (rbool_ok  h).mono ?_
    rintro r w' ⟨k1, h1⟩
    cases hR : rBool (bd.drop k) with
    | bad e =>
      rw [hR] at h1
      obtain ⟨rfl, h2⟩ := h1
      exact ⟨false, _, _, rfl, h2, k1, nx_bad (rBool_err hR)⟩
    | good v m =>
      rw [hR] at h1
      obtain ⟨⟨x, rfl, hx⟩, h2⟩ := h1
      exact ⟨v, _, _, by rw [show x = .bool v from hx], h2, k1, nx_good (rBool_can hby hR)⟩
  · refine (rbool_err  h he).mono ?_
    rintro r w' ⟨rfl, k1⟩
    exact ⟨false, _, _, rfl, h.no k1, k1.no, nx_bad he⟩
theorem step_bytes (h : RdAt w q A n c bd er k) : Calls Try.prog 26 #[.pointer (some ⟨q, 0, none⟩), .int .i64 300] w fun r w' => ∃ (x : Value) (u : List Int) (er' : Int) (k' : Nat), r = .returned x ∧ Ow 5 .u8 w' (w.heap.size + 1) x u ∧ u.length ≤ 300 ∧ RdAt w' q A n c bd er' k' ∧ Ch (fun i => i = q) w w' ∧ Nx bd er k er' k' (grp u.length ++ u) := by
  by_cases he : er = 0
  · subst he
    have hby := bys_drop h.2.2.2.2.2 k
    refine (rbytes_ok (lim := 300) h).mono ?_
    rintro r w' ⟨k1, h1⟩
    cases hR : rText (bd.drop k) 300 with
    | bad e =>
      rw [hR] at h1
      obtain ⟨rfl, h2⟩ := h1
      exact ⟨.slice none 0 0, [], _, _, rfl, Ow.nil_, by simp, h2, k1, nx_bad (rText_err hR)⟩
    | good v m =>
      rw [hR] at h1
      obtain ⟨⟨x, rfl, hx⟩, h2⟩ := h1
      exact ⟨x, v, _, _, rfl, hx, by have := (rText_can hby hR).2; omega, h2, k1, nx_good (rText_can hby hR).1⟩
  · refine (rbytes_err (lim := 300) h he).mono ?_
    rintro r w' ⟨rfl, k1⟩
    exact ⟨.slice none 0 0, [], _, _, rfl, Ow.nil_, by simp, h.no k1, k1.no, nx_bad he⟩
theorem step_string (h : RdAt w q A n c bd er k) : Calls Try.prog 27 #[.pointer (some ⟨q, 0, none⟩), .int .i64 300] w fun r w' => ∃ (u : List Int) (er' : Int) (k' : Nat), r = .returned (.string (strOfNums u)) ∧ u.length ≤ 300 ∧ Bys8 u ∧ RdAt w' q A n c bd er' k' ∧ Ch (fun i => i = q) w w' ∧ Nx bd er k er' k' (grp u.length ++ u) := by
  by_cases he : er = 0
  · subst he
    have hby := bys_drop h.2.2.2.2.2 k
    refine (rstring_ok (lim := 300) h).mono ?_
    rintro r w' ⟨k1, h1⟩
    cases hR : rText (bd.drop k) 300 with
    | bad e =>
      rw [hR] at h1
      obtain ⟨rfl, h2⟩ := h1
      exact ⟨[], _, _, rfl, by simp, fun x hx => by simp at hx, h2, k1, nx_bad (rText_err hR)⟩
    | good v m =>
      rw [hR] at h1
      obtain ⟨⟨x, rfl, hx⟩, h2⟩ := h1
      exact ⟨v, _, _, by rw [show x = .string (strOfNums v) from hx], by have := (rText_can hby hR).2; omega, by obtain ⟨n', k', -, -, -, rfl⟩ := rText_le hR; exact fun x hx => hby x (List.mem_of_mem_drop (List.mem_of_mem_take hx)), h2, k1, nx_good (rText_can hby hR).1⟩
  · refine (rstring_err (lim := 300) h he).mono ?_
    rintro r w' ⟨rfl, k1⟩
    exact ⟨[], _, _, rfl, by simp, fun x hx => by simp at hx, h.no k1, k1.no, nx_bad he⟩
theorem step_ints (h : RdAt w q A n c bd er k) : Calls Try.prog 29 #[.pointer (some ⟨q, 0, none⟩), .int .i64 300] w fun r w' => ∃ (x : Value) (u : List Int) (er' : Int) (k' : Nat), r = .returned x ∧ Ow 3 .i64 w' (w.heap.size + 1) x u ∧ u.length ≤ 300 ∧ I64s u ∧ RdAt w' q A n c bd er' k' ∧ Ch (fun i => i = q) w w' ∧ Nx bd er k er' k' (grp u.length ++ intsL u) := by
  by_cases he : er = 0
  · subst he
    have hby := bys_drop h.2.2.2.2.2 k
    refine (rints_ok (lim := 300) h).mono ?_
    rintro r w' ⟨k1, h1⟩
    cases hR : rList (bd.drop k) 300 with
    | bad e =>
      rw [hR] at h1
      obtain ⟨rfl, h2⟩ := h1
      exact ⟨.slice none 0 0, [], _, _, rfl, Ow.nil_, by simp, fun x hx => by simp at hx, h2, k1, nx_bad (rList_err hR)⟩
    | good v m =>
      rw [hR] at h1
      obtain ⟨⟨x, rfl, hx⟩, h2⟩ := h1
      exact ⟨x, v, _, _, rfl, hx, by have := (rList_can hby hR).2.1; omega, (rList_can hby hR).2.2, h2, k1, nx_good (rList_can hby hR).1⟩
  · refine (rints_err (lim := 300) h he).mono ?_
    rintro r w' ⟨rfl, k1⟩
    exact ⟨.slice none 0 0, [], _, _, rfl, Ow.nil_, by simp, fun x hx => by simp at hx, h.no k1, k1.no, nx_bad he⟩
end
end Go.Proofs.Ytocdjieaphkbdaa
