/- Package wire: a writer's methods. -/
import Derived.Test.YtocdjieaphkbdaaWd
import Derived.Deep.RegionWith
namespace Go.Proofs.Ytocdjieaphkbdaa
open Go.RowKit

/-- The writer at p has come to the state x'. -/
def Wrote (w w' : World) (p : Nat) (v : Value) (x' : Wst) : Prop := ∃ v', WrAt w' p v' x' ∧ Ch (At p v) w w' ∧ Mv w v v'
def wUint (x : Wst) (n : Int) : Wst := if x.er = 0 ∧ n < 0 then ⟨2, x.out⟩ else wr x (grp n.toNat)
def wInt (x : Wst) (n : Int) : Wst := wr x (grp (fold n))
def wBool (x : Wst) (b : Bool) : Wst := wr x [if b then 1 else 0]
def wBytes (x : Wst) (bs : List Int) : Wst := wr x (grp bs.length ++ bs)
def intsL (l : List Int) : List Int := l.flatMap fun n => grp (fold n)
def wInts (x : Wst) (l : List Int) : Wst := wr x (grp l.length ++ intsL l)
theorem wr_bad {x : Wst} (h : ¬ x.er = 0) (bs : List Int) : wr x bs = x := by unfold wr; rw [if_neg h]
theorem wrote_refl {w : World} {p : Nat} {v : Value} {x : Wst} (h : WrAt w p v x) : Wrote w w p v x := ⟨v, h, Ch.refl _ _, Mv.refl _ _⟩
/-- What comes of keep. -/
theorem wrote_keep {w w1 w2 : World} {p : Nat} {v v1 v' : Value} {y bs : List Int} (hs : w.heap.size ≤ w1.heap.size) (k1 : Ch (At p v) w w1) (m1 : Mv w v v1)
    (h : WrAt w2 p v' (if 65536 < (y ++ bs).length then ⟨7, y⟩ else ⟨0, y ++ bs⟩)) (k2 : Ch (fun i => i = p) w1 w2) (hv : v' = v ∨ v' = v1) : Wrote w w2 p v (wr ⟨0, y⟩ bs) := by
  refine ⟨v', ?_, k1.trans k2 fun i _ e => .inl e, ?_⟩
  · unfold wr
    rw [if_pos rfl]
    exact h
  · rcases hv with rfl | rfl
    · exact Mv.refl _ _
    · exact m1
set_option maxRecDepth 100000 in
set_option maxHeartbeats 1000000 in
theorem uint_any {w : World} {p : Nat} {v : Value} {x : Wst} {n : Int} (h : WrAt w p v x) (h2 : n ≤ 9223372036854775807) :
    Calls Try.prog 34 #[.pointer (some ⟨p, 0, none⟩), .int .i64 n] w fun r w' => r = .returned (.tuple #[]) ∧ Wrote w w' p v (wUint x n) := by
  obtain ⟨e, y⟩ := x
  by_cases he : e = 0
  · subst he
    have HR := Lib.hid (ready_0 h)
    by_cases g : n < 0
    · have HF := Lib.hid (fail_0 (e := 2) h.c0 (h.free 0))
      have HW := Lib.hid (h.zero.bad (e := 2) (by decide) y)
      have HE : Hid (wUint ⟨0, y⟩ n = ⟨2, y⟩) := Lib.hid (by unfold wUint; rw [if_pos ⟨rfl, g⟩])
      clear h
      go_enter Try.func34, Try.ntmps34
      go_wp2_with (fail)
      refine HR.out.mono ?_
      rintro e w1 ⟨rfl, rfl⟩
      go_wp2_with (fail)
      refine HF.out.mono ?_
      rintro e w2 ⟨rfl, rfl⟩
      go_wp2_with (fail)
      first | go_end0 | refine bodyPost_ret (results_none rfl _ _ _) rfl ?_
      rw [HE.out]
      exact ⟨rfl, v, HW.out, (Ch.put _ _ _ _).mono fun i _ e => .inl e, Mv.refl _ _⟩
    · obtain ⟨m, rfl⟩ := Int.eq_ofNat_of_zero_le (by omega : 0 ≤ n)
      have hw : IntKind.u64.wrap (m : Int) = m := by rw [IntKind.wrap_u64]; omega
      have HE : Hid (wUint ⟨0, y⟩ (m : Int) = wr ⟨0, y⟩ (grp m)) := Lib.hid (by unfold wUint; rw [if_neg (by omega), Int.toNat_natCast])
      obtain ⟨ho, hy⟩ := h.2 rfl
      have c1 := h.c1
      have HG := Lib.hid (group_any (n := m) ho h.lt (by omega) (Nat.lt_of_le_of_lt hy (by decide)))
      have HY : Hid ((y ++ grp m).length < 100000000) := Lib.hid (by have := grp_len10 (n := m) (by omega); rw [List.length_append]; have := hy; simp only at this; omega)
      have HX := Lib.hid h.zero
      have HO := Lib.hid ho
      clear h ho hy
      go_enter Try.func34, Try.ntmps34
      go_wp2_with (fail)
      refine HR.out.mono ?_
      rintro e w1 ⟨rfl, rfl⟩
      go_wp2_with (fail)
      refine HG.out.mono ?_
      rintro e w2 ⟨v2, rfl, o2, k2, m2⟩
      have HK := Lib.hid (keep_any y (HX.out.ch k2 (fun e => by have := (HO.out.lt e).1; omega)) o2 HY.out)
      have K2 := Lib.hid k2
      have M2 := Lib.hid m2
      clear o2 k2 m2 c1 HG
      go_wp2_with (fail)
      refine HK.out.mono ?_
      rintro e w3 ⟨rfl, v3, h3, k3, e3⟩
      have HF := Lib.hid (wrote_keep K2.out.size (K2.out.mono fun i _ e => Or.inr e) M2.out h3 k3 e3)
      clear h3 k3 e3
      go_wp2_with (fail)
      first | go_end0 | refine bodyPost_ret (results_none rfl _ _ _) rfl ?_
      rw [HE.out]
      exact ⟨rfl, HF.out⟩
  · have HR := Lib.hid (ready_1 h he)
    have HE : Hid (wUint ⟨e, y⟩ n = ⟨e, y⟩) := Lib.hid (by unfold wUint; rw [if_neg (fun h' => he h'.1), wr_bad he])
    have HW := Lib.hid (wrote_refl h)
    clear h he
    go_enter Try.func34, Try.ntmps34
    go_wp2_with (fail)
    refine HR.out.mono ?_
    rintro e w1 ⟨rfl, rfl⟩
    go_wp2_with (fail)
    first | go_end0 | refine bodyPost_ret (results_none rfl _ _ _) rfl ?_
    rw [HE.out]
    exact ⟨rfl, HW.out⟩
set_option maxRecDepth 100000 in
set_option maxHeartbeats 1000000 in
theorem int_any {w : World} {p : Nat} {v : Value} {x : Wst} {n : Int} (h : WrAt w p v x) (h1 : -9223372036854775808 ≤ n) (h2 : n ≤ 9223372036854775807) :
    Calls Try.prog 35 #[.pointer (some ⟨p, 0, none⟩), .int .i64 n] w fun r w' => r = .returned (.tuple #[]) ∧ Wrote w w' p v (wInt x n) := by
  obtain ⟨e, y⟩ := x
  by_cases he : e = 0
  · subst he
    have HR := Lib.hid (ready_0 h)
    obtain ⟨ho, hy⟩ := h.2 rfl
    have c1 := h.c1
    have c1' : w.drew.cell? ⟨p, 1, none⟩ = some v := c1
    have HFo := Lib.hid (fun w' : World => folded_any (w := w') h1 h2)
    have HG : Hid (∀ w' : World, Ch No w w' → Calls Try.prog 69 #[v, .int .u64 (fold n)] w' fun r w'' => ∃ v', r = .returned v' ∧ Ow 5 .u8 w'' (p + 1) v' (y ++ grp (fold n)) ∧ Ch (Of v) w' w'' ∧ Mv w' v v') := Lib.hid fun w' k => group_any (n := fold n) (ho.no k) (Nat.lt_of_lt_of_le h.lt k.size) (fold_lt h1 h2) (Nat.lt_of_le_of_lt hy (by decide))
    have HY : Hid ((y ++ grp (fold n)).length < 100000000) := Lib.hid (by have := grp_len10 (n := fold n) (fold_lt h1 h2); rw [List.length_append]; have := hy; simp only at this; omega)
    have HX := Lib.hid h.zero
    have HO := Lib.hid ho
    clear h ho hy
    go_enter Try.func35, Try.ntmps35
    go_wp2_with (fail)
    refine HR.out.mono ?_
    rintro e w1 ⟨rfl, rfl⟩
    go_wp2_with (fail)
    go_region_with (first | (go_at_call 70; refine (HFo.out _).mono ?_; rintro e w1 ⟨rfl, rfl⟩) | (go_at_call 69; refine (HG.out _ (Ch.refl _ _).drew).mono ?_; rintro e w2 ⟨v2, rfl, o2, k2, m2⟩) | (go_at_call 68; refine (keep_any y (HX.out.ch k2.undrew (fun e => by have := (HO.out.lt e).1; omega)) o2 HY.out).mono ?_; rintro e w3 ⟨rfl, v3, h3, k3, e3⟩))
    all_goals
      go_wp2_with (fail)
      first | go_end0 | refine bodyPost_ret (results_none rfl _ _ _) rfl ?_
      exact ⟨rfl, wrote_keep k2.undrew.size (k2.undrew.mono fun i _ e => Or.inr e) m2 h3 k3 e3⟩
  · have HR := Lib.hid (ready_1 h he)
    have HE : Hid (wInt ⟨e, y⟩ n = ⟨e, y⟩) := Lib.hid (by unfold wInt; rw [wr_bad he])
    have HW := Lib.hid (wrote_refl h)
    clear h he
    go_enter Try.func35, Try.ntmps35
    go_wp2_with (fail)
    refine HR.out.mono ?_
    rintro e w1 ⟨rfl, rfl⟩
    go_wp2_with (fail)
    first | go_end0 | refine bodyPost_ret (results_none rfl _ _ _) rfl ?_
    rw [HE.out]
    exact ⟨rfl, HW.out⟩
end Go.Proofs.Ytocdjieaphkbdaa
