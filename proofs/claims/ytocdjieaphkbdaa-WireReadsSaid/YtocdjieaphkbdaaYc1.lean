/- The reference of wire: numbers and truth values are read. -/
import Derived.Test.YtocdjieaphkbdaaYc0
namespace Go.Proofs.Ytocdjieaphkbdaa
open Go.RowKit

theorem Rw.zero {w : World} {P : Nat → Prop} {K : IntKind} (a : Addr) (c : Nat) : Rw w P K (.slice (some a) 0 c) [] := ⟨some a, c, rfl, Nat.zero_le _, fun e => (by cases e), fun h => absurd h (by simp)⟩
theorem refUnfold_any {w : World} {n : Nat} (hn : n < 18446744073709551616) :
    Calls Try.prog 49 #[.int .u64 n] w fun r w' => r = .returned (.int .i64 (unf n)) ∧ w' = w := by
  have e1 : wrap64 ((n : Int) / 2) = (n : Int) / 2 := by unfold wrap64; omega
  have e2 : wrap64 (-((n : Int) / 2)) = -((n : Int) / 2) := by unfold wrap64; omega
  have e3 : wrap64 (-((n : Int) / 2) - 1) = -((n : Int) / 2) - 1 := by unfold wrap64; omega
  by_cases g : n % 2 = 0
  · have g' : ((n : Int) % 2 == 0) = true := by simp; omega
    have HF : Hid (unf n = (n : Int) / 2) := Lib.hid (by unfold unf; rw [if_neg (by omega)]; omega)
    go_enter Try.func49, Try.ntmps49
    go_wp2_with (fail)
    rw [HF.out]
    go_ret
    exact ⟨rfl, rfl⟩
  · have g' : ((n : Int) % 2 == 0) = false := by simp; omega
    have HF : Hid (unf n = -((n : Int) / 2) - 1) := Lib.hid (by unfold unf; rw [if_pos (by omega)]; omega)
    go_enter Try.func49, Try.ntmps49
    go_wp2_with (fail)
    rw [HF.out]
    go_ret
    exact ⟨rfl, rfl⟩
section
variable {w : World} {P : Nat → Prop} {A : Option Addr} {m c : Nat} {bd : List Int}
set_option maxRecDepth 100000 in
theorem refUint_any (hr : Rw w P .u8 (.slice A m c) bd) (hm : bd.length = m) (hb : Bys8 bd) (hlm : m < 1000000) :
    Calls Try.prog 16 #[.slice A m c] w fun r w' => r = .returned (tup (fun v : Nat => .int .i64 v) (.int .i64 0) (rUint bd)) ∧ w' = w := by
  have HU := refUngroup9 hr hm hb hlm
  clear hr hm hb hlm
  cases hR : rUint bd with
  | bad e =>
    rw [show ung 9 0 0 bd = .bad e from hR] at HU
    simp only [tup] at HU ⊢
    have HU := Lib.hid HU
    clear hR
    go_enter Try.func16, Try.ntmps16
    go_wp2_with (fail)
    refine HU.out.mono ?_
    rintro r w1 ⟨rfl, hw⟩
    rw [hw]
    clear hw HU
    go_wp2_with (fail)
    exact bodyPost_ret (v := .tuple #[.int .i64 0, .int .i64 0, .int .i64 e]) (by simp [results, Try.results16, go_sem]) rfl ⟨rfl, rfl⟩
  | good v k =>
    have hv := (rUint_le hR).2.2
    rw [show ung 9 0 0 bd = .good v k from hR] at HU
    simp only [tup] at HU ⊢
    have HU := Lib.hid HU
    have e1 : wrap64 (v : Int) = v := by unfold wrap64; omega
    clear hR
    go_enter Try.func16, Try.ntmps16
    go_wp2_with (fail)
    refine HU.out.mono ?_
    rintro r w1 ⟨rfl, hw⟩
    rw [hw]
    clear hw HU
    go_wp2_with (fail)
    exact bodyPost_ret (v := .tuple #[.int .i64 v, .int .i64 k, .int .i64 0]) (by simp [results, Try.results16, go_sem]) rfl ⟨rfl, rfl⟩
set_option maxRecDepth 100000 in
theorem refInt_any (hr : Rw w P .u8 (.slice A m c) bd) (hm : bd.length = m) (hb : Bys8 bd) (hlm : m < 1000000) :
    Calls Try.prog 17 #[.slice A m c] w fun r w' => r = .returned (tup (fun v : Int => .int .i64 v) (.int .i64 0) (rInt bd)) ∧ w' = w := by
  have HU := refUngroup10 hr hm hb hlm
  clear hr hm hb hlm
  cases hR : ung 10 0 0 bd with
  | bad e =>
    have hI : rInt bd = .bad e := by unfold rInt; rw [hR]
    have he : ((e : Int) != 0) = true := by have := rInt_err hI; simpa using this
    rw [hR] at HU
    rw [hI]
    simp only [tup] at HU ⊢
    have HU := Lib.hid HU
    clear hR hI
    go_enter Try.func17, Try.ntmps17
    go_wp2_with (fail)
    refine HU.out.mono ?_
    rintro r w1 ⟨rfl, hw⟩
    rw [hw]
    clear hw HU
    go_wp2_with (fail)
    exact bodyPost_ret (v := .tuple #[.int .i64 0, .int .i64 0, .int .i64 e]) (by simp [results, Try.results17, go_sem]) rfl ⟨rfl, rfl⟩
  | good v k =>
    have hv := ung_lt64 10 0 0 bd v k (by decide) (by decide) hR
    have hI : rInt bd = .good (unf v) k := by unfold rInt; rw [hR]
    rw [hR] at HU
    rw [hI]
    simp only [tup] at HU ⊢
    have HU := Lib.hid HU
    have HF := Lib.hid (refUnfold_any (w := w) hv)
    clear hR hI
    go_enter Try.func17, Try.ntmps17
    go_wp2_with (fail)
    refine HU.out.mono ?_
    rintro r w1 ⟨rfl, hw⟩
    rw [hw]
    clear hw HU
    go_wp2_with (fail)
    refine HF.out.mono ?_
    rintro r w1 ⟨rfl, hw⟩
    rw [hw]
    clear hw HF
    go_wp2_with (fail)
    exact bodyPost_ret (v := .tuple #[.int .i64 (unf v), .int .i64 k, .int .i64 0]) (by simp [results, Try.results17, go_sem]) rfl ⟨rfl, rfl⟩
set_option maxRecDepth 100000 in
theorem refBool_any (hr : Rw w P .u8 (.slice A m c) bd) (hm : bd.length = m) (hb : Bys8 bd) :
    Calls Try.prog 18 #[.slice A m c] w fun r w' => r = .returned (tup (fun v : Bool => .bool v) (.bool false) (rBool bd)) ∧ w' = w := by
  cases bd with
  | nil =>
    have e : m = 0 := by simpa using hm.symm
    subst e
    clear hr hm hb
    simp only [rBool, tup]
    go_enter Try.func18, Try.ntmps18
    go_wp2_with (fail)
    exact bodyPost_ret (v := .tuple #[.bool false, .int .i64 0, .int .i64 4]) (by simp [results, Try.results18, go_sem]) rfl ⟨rfl, rfl⟩
  | cons y l =>
    obtain ⟨b, o, rfl, -, hbl, hcl⟩ := hr.at (by simp)
    have c0 := hcl 0 (by simp)
    have hy := hb y (List.mem_cons_self ..)
    unfold By at hy
    rw [show at_ (y :: l) 0 = y from rfl, Nat.add_zero] at c0
    have hm0 : ((m : Int) == 0) = false := by simp [← hm]; omega
    have hm1 : 0 < m := by rw [← hm]; simp
    clear hr hm hb hcl
    by_cases g : 1 < y
    · have gI : y > 1 := g
      rw [show rBool (y :: l) = .bad 6 by unfold rBool; simp only; rw [if_pos g]]
      simp only [tup]
      go_enter Try.func18, Try.ntmps18
      go_wp2_with (fail)
      exact bodyPost_ret (v := .tuple #[.bool false, .int .i64 0, .int .i64 6]) (by simp [results, Try.results18, go_sem]) rfl ⟨rfl, rfl⟩
    · rw [show rBool (y :: l) = .good (decide (y = 1)) 1 by unfold rBool; simp only; rw [if_neg g]]
      simp only [tup]
      rcases (by omega : y = 0 ∨ y = 1) with rfl | rfl
      · clear g hy
        go_enter Try.func18, Try.ntmps18
        go_wp2_with (fail)
        exact bodyPost_ret (v := .tuple #[.bool false, .int .i64 1, .int .i64 0]) (by simp [results, Try.results18, go_sem]) rfl ⟨rfl, rfl⟩
      · clear g hy
        go_enter Try.func18, Try.ntmps18
        go_wp2_with (fail)
        exact bodyPost_ret (v := .tuple #[.bool true, .int .i64 1, .int .i64 0]) (by simp [results, Try.results18, go_sem]) rfl ⟨rfl, rfl⟩
set_option maxRecDepth 100000 in
theorem refCount_any {lim : Int} (hr : Rw w P .u8 (.slice A m c) bd) (hm : bd.length = m) (hb : Bys8 bd) (hlm : m < 1000000) :
    Calls Try.prog 19 #[.slice A m c, .int .i64 lim] w fun r w' => r = .returned (tup (fun v : Nat => .int .i64 v) (.int .i64 0) (rCount bd lim)) ∧ w' = w := by
  have HU := refUint_any hr hm hb hlm
  clear hr hm hb hlm
  cases hR : rUint bd with
  | bad e =>
    have hI : rCount bd lim = .bad e := by unfold rCount; rw [hR]
    have he : ((e : Int) != 0) = true := by have := rUint_err hR; simpa using this
    rw [hR] at HU
    rw [hI]
    simp only [tup] at HU ⊢
    have HU := Lib.hid HU
    clear hR hI
    go_enter Try.func19, Try.ntmps19
    go_wp2_with (fail)
    refine HU.out.mono ?_
    rintro r w1 ⟨rfl, hw⟩
    rw [hw]
    clear hw HU
    go_wp2_with (fail)
    exact bodyPost_ret (v := .tuple #[.int .i64 0, .int .i64 0, .int .i64 e]) (by simp [results, Try.results19, go_sem]) rfl ⟨rfl, rfl⟩
  | good v k =>
    rw [hR] at HU
    simp only [tup] at HU
    have HU := Lib.hid HU
    by_cases g1 : lim < 0
    · rw [show rCount bd lim = .bad 2 by unfold rCount; rw [hR]; simp only; rw [if_pos g1]]
      simp only [tup]
      clear hR
      go_enter Try.func19, Try.ntmps19
      go_wp2_with (fail)
      refine HU.out.mono ?_
      rintro r w1 ⟨rfl, hw⟩
      rw [hw]
      clear hw HU
      go_wp2_with (fail)
      exact bodyPost_ret (v := .tuple #[.int .i64 0, .int .i64 0, .int .i64 2]) (by simp [results, Try.results19, go_sem]) rfl ⟨rfl, rfl⟩
    · by_cases g2 : lim < (v : Int)
      · have g2' : (v : Int) > lim := g2
        rw [show rCount bd lim = .bad 7 by unfold rCount; rw [hR]; simp only; rw [if_neg g1, if_pos g2]]
        simp only [tup]
        clear hR
        go_enter Try.func19, Try.ntmps19
        go_wp2_with (fail)
        refine HU.out.mono ?_
        rintro r w1 ⟨rfl, hw⟩
        rw [hw]
        clear hw HU
        go_wp2_with (fail)
        exact bodyPost_ret (v := .tuple #[.int .i64 0, .int .i64 0, .int .i64 7]) (by simp [results, Try.results19, go_sem]) rfl ⟨rfl, rfl⟩
      · have g2' : ¬ (v : Int) > lim := g2
        rw [show rCount bd lim = .good v k by unfold rCount; rw [hR]; simp only; rw [if_neg g1, if_neg g2]]
        simp only [tup]
        clear hR
        go_enter Try.func19, Try.ntmps19
        go_wp2_with (fail)
        refine HU.out.mono ?_
        rintro r w1 ⟨rfl, hw⟩
        rw [hw]
        clear hw HU
        go_wp2_with (fail)
        exact bodyPost_ret (v := .tuple #[.int .i64 v, .int .i64 k, .int .i64 0]) (by simp [results, Try.results19, go_sem]) rfl ⟨rfl, rfl⟩
/-- What the reference's Bytes and List answer. -/
def tupX {α : Type} (x Z : Value) : Rd α → Value
  | .bad e => .tuple #[Z, .int .i64 0, .int .i64 e]
  | .good _ k => .tuple #[x, .int .i64 k, .int .i64 0]
def Part (w : World) (P : Nat → Prop) (K : IntKind) (x : Value) : Rd (List Int) → Prop
  | .bad _ => True
  | .good v _ => Rw w P K x v
set_option maxRecDepth 100000 in
theorem refBytes_any {lim : Int} (hr : Rw w P .u8 (.slice A m c) bd) (hm : bd.length = m) (hb : Bys8 bd) (hlm : m < 1000000) :
    Calls Try.prog 20 #[.slice A m c, .int .i64 lim] w fun r w' => ∃ x, r = .returned (tupX x (.slice none 0 0) (rText bd lim)) ∧ Part w P .u8 x (rText bd lim) ∧ w' = w := by
  have HU := refCount_any (lim := lim) hr hm hb hlm
  cases hR : rCount bd lim with
  | bad e =>
    have hI : rText bd lim = .bad e := by unfold rText; rw [hR]
    have he : ((e : Int) != 0) = true := by have := rCount_err hR; simpa using this
    rw [hR] at HU
    rw [hI]
    simp only [tup, tupX, Part] at HU ⊢
    have HU := Lib.hid HU
    clear hR hI hr hm hb hlm
    go_enter Try.func20, Try.ntmps20
    go_wp2_with (fail)
    refine HU.out.mono ?_
    rintro r w1 ⟨rfl, hw⟩
    rw [hw]
    clear hw HU
    go_wp2_with (fail)
    exact bodyPost_ret (v := .tuple #[.slice none 0 0, .int .i64 0, .int .i64 e]) (by simp [results, Try.results20, go_sem]) rfl ⟨.slice none 0 0, rfl, trivial, rfl⟩
  | good v k =>
    rw [hR] at HU
    simp only [tup] at HU
    have HU := Lib.hid HU
    obtain ⟨hU, -⟩ := rCount_le hR
    obtain ⟨u1, u2, u3⟩ := rUint_le hU
    rw [hm] at u2
    have t1 : wrap64 ((m : Int) - (k : Int)) = (m : Int) - (k : Int) := by unfold wrap64; omega
    by_cases g1 : bd.length < k + v
    · have hI : rText bd lim = .bad 4 := by unfold rText; rw [hR]; simp only; rw [if_pos g1]
      have t2 : (v : Int) > (m : Int) - (k : Int) := by omega
      rw [hI]
      simp only [tupX, Part]
      clear hR hI hr hm hb hlm hU g1
      go_enter Try.func20, Try.ntmps20
      go_wp2_with (fail)
      refine HU.out.mono ?_
      rintro r w1 ⟨rfl, hw⟩
      rw [hw]
      clear hw HU
      go_wp2_with (fail)
      exact bodyPost_ret (v := .tuple #[.slice none 0 0, .int .i64 0, .int .i64 4]) (by simp [results, Try.results20, go_sem]) rfl ⟨.slice none 0 0, rfl, trivial, rfl⟩
    · have hI : rText bd lim = .good ((bd.drop k).take v) (k + v) := by unfold rText; rw [hR]; simp only; rw [if_neg g1]
      have t2 : ¬ (v : Int) > (m : Int) - (k : Int) := by omega
      have t3 : wrap64 ((k : Int) + (v : Int)) = (k : Int) + (v : Int) := by unfold wrap64; omega
      obtain ⟨b, o, rfl, -⟩ := hr.at (by omega)
      have hcap := hr.cap hm
      rw [hI]
      simp only [tupX, Part]
      by_cases hck : c = k
      · obtain rfl : v = 0 := by omega
        subst hck
        clear hR hI hr hm hb hU g1 hcap u2
        go_enter Try.func20, Try.ntmps20
        go_wp2_with (fail)
        refine HU.out.mono ?_
        rintro r w1 ⟨rfl, hw⟩
        rw [hw]
        clear hw HU
        go_wp2_with (fail)
        exact bodyPost_ret (v := .tuple #[.slice (some ⟨b, o, none⟩) 0 0, .int .i64 c, .int .i64 0]) (by simp [results, Try.results20, go_sem]) rfl ⟨_, rfl, (by rw [List.take_zero]; exact Rw.zero _ _), rfl⟩
      · have t4 : 0 ≤ (k : Int) + (v : Int) := by omega
        have t5 : (k : Int) + (v : Int) ≤ c := by omega
        have t6 : (k : Int) ≤ (k : Int) + (v : Int) := by omega
        have t7 : k + v ≤ c := by omega
        have HP : Hid (Rw w P .u8 (.slice (some ⟨b, o + k, none⟩) v (c - k)) ((bd.drop k).take v)) := Lib.hid (by
          have := hr.cut hm (i := k) (j := k + v) (by omega) (by omega)
          rw [List.drop_take, if_neg hck, Nat.add_sub_cancel_left] at this
          exact this)
        clear hR hI hr hm hb hU g1 hcap
        go_enter Try.func20, Try.ntmps20
        go_wp2_with (fail)
        refine HU.out.mono ?_
        rintro r w1 ⟨rfl, hw⟩
        rw [hw]
        clear hw HU
        go_wp2_with (fail)
        exact bodyPost_ret (v := .tuple #[.slice (some ⟨b, o + k, none⟩) v (c - k), .int .i64 ((k + v : Nat) : Int), .int .i64 0]) (by simp [results, Try.results20, go_sem]) rfl ⟨_, rfl, HP.out, rfl⟩
end
end Go.Proofs.Ytocdjieaphkbdaa
