/- Package wire: a reader's other methods. -/
import Derived.Test.YtocdjieaphkbdaaWo
namespace Go.Proofs.Ytocdjieaphkbdaa
open Go.RowKit

theorem zInput (w : World) : (zeroValue 79).run Try.prog w = .ok (.agg #[.slice none 0 0, .int .i64 0]) w := by kernel_rfl
theorem zReader (w : World) : (zeroValue 81).run Try.prog w = .ok (.agg #[.int .i64 0, .bool false, .slice none 0 0, .int .i64 0]) w := by kernel_rfl
section
variable {w : World} {p n c k : Nat} {A : Option Addr} {bd : List Int} {er : Int}
theorem err_ok (h : RdAt w p A n c bd er k) : Calls Try.prog 32 #[.pointer (some ⟨p, 0, none⟩)] w fun r w' => r = .returned (.int .i64 er) ∧ w' = w := by
  have HI := Lib.hid (is_yes h)
  have c0 := h.c0
  clear h
  go_enter Try.func32, Try.ntmps32
  go_wp2_with (fail)
  refine HI.out.mono ?_
  rintro e w1 ⟨rfl, hw1⟩
  rw [hw1]
  clear hw1
  go_wp2_with (fail)
  go_ret
  exact ⟨rfl, rfl⟩
theorem err_no {r : Value} (h : NoRd w r) : Calls Try.prog 32 #[r] w fun r w' => r = .returned (.int .i64 1) ∧ w' = w := by
  have HI := Lib.hid (is_no h)
  clear h
  go_enter Try.func32, Try.ntmps32
  go_wp2_with (fail)
  refine HI.out.mono ?_
  rintro e w1 ⟨rfl, hw1⟩
  rw [hw1]
  clear hw1
  go_wp2_with (fail)
  go_ret
  exact ⟨rfl, rfl⟩
theorem at_ok (h : RdAt w p A n c bd er k) : Calls Try.prog 31 #[.pointer (some ⟨p, 0, none⟩)] w fun r w' => r = .returned (.int .i64 k) ∧ w' = w := by
  have HI := Lib.hid (is_yes h)
  have c3 := h.c3
  clear h
  go_enter Try.func31, Try.ntmps31
  go_wp2_with (fail)
  refine HI.out.mono ?_
  rintro e w1 ⟨rfl, hw1⟩
  rw [hw1]
  clear hw1
  go_wp2_with (fail)
  go_ret
  exact ⟨rfl, rfl⟩
theorem at_no {r : Value} (h : NoRd w r) : Calls Try.prog 31 #[r] w fun r w' => r = .returned (.int .i64 0) ∧ w' = w := by
  have HI := Lib.hid (is_no h)
  clear h
  go_enter Try.func31, Try.ntmps31
  go_wp2_with (fail)
  refine HI.out.mono ?_
  rintro e w1 ⟨rfl, hw1⟩
  rw [hw1]
  clear hw1
  go_wp2_with (fail)
  go_ret
  exact ⟨rfl, rfl⟩
theorem rfail_ok {e : Int} (h : RdAt w p A n c bd er k) : Calls Try.prog 30 #[.pointer (some ⟨p, 0, none⟩), .int .i64 e] w fun r w' => r = .returned (.tuple #[]) ∧ RdAt w' p A n c bd (if er = 0 then e else er) k ∧ Ch (fun i => i = p) w w' := by
  have HI := Lib.hid (is_yes h)
  by_cases he : er = 0
  · subst he
    have HF := Lib.hid (fail_0 (e := e) h.c0 (h.free 0))
    have HE := Lib.hid (h.err e)
    rw [if_pos rfl]
    clear h
    go_enter Try.func30, Try.ntmps30
    go_wp2_with (fail)
    refine HI.out.mono ?_
    rintro r w1 ⟨rfl, hw1⟩
    rw [hw1]
    clear hw1
    go_wp2_with (fail)
    refine HF.out.mono ?_
    rintro r w1 ⟨rfl, hw1⟩
    rw [hw1]
    clear hw1
    go_wp2_with (fail)
    first | go_end0 | refine bodyPost_ret (results_none rfl _ _ _) rfl ?_
    exact ⟨rfl, HE.out, Ch.put _ _ _ _⟩
  · have HF := Lib.hid (fail_1 (e := e) h.c0 he)
    have HE := Lib.hid h
    rw [if_neg he]
    clear h he
    go_enter Try.func30, Try.ntmps30
    go_wp2_with (fail)
    refine HI.out.mono ?_
    rintro r w1 ⟨rfl, hw1⟩
    rw [hw1]
    clear hw1
    go_wp2_with (fail)
    refine HF.out.mono ?_
    rintro r w1 ⟨rfl, hw1⟩
    rw [hw1]
    clear hw1
    go_wp2_with (fail)
    first | go_end0 | refine bodyPost_ret (results_none rfl _ _ _) rfl ?_
    exact ⟨rfl, HE.out, Ch.refl _ _⟩
theorem rfail_no {r : Value} {e : Int} (h : NoRd w r) : Calls Try.prog 30 #[r, .int .i64 e] w fun r w' => r = .returned (.tuple #[]) ∧ w' = w := by
  have HI := Lib.hid (is_no h)
  clear h
  go_enter Try.func30, Try.ntmps30
  go_wp2_with (fail)
  refine HI.out.mono ?_
  rintro e w1 ⟨rfl, hw1⟩
  rw [hw1]
  clear hw1
  go_wp2_with (fail)
  first | go_end0 | refine bodyPost_ret (results_none rfl _ _ _) rfl ?_
  exact ⟨rfl, rfl⟩
/-- The error at the end. -/
def endE (er : Int) (k n : Nat) : Int := if er = 0 then (if k < n then 5 else 0) else er
set_option maxRecDepth 100000 in
set_option maxHeartbeats 1000000 in
theorem rend_ok (h : RdAt w p A n c bd er k) : Calls Try.prog 33 #[.pointer (some ⟨p, 0, none⟩)] w fun r w' => r = .returned (.int .i64 (endE er k n)) ∧ Ch No w w' := by
  have HI := Lib.hid (err_ok h)
  have c2 := h.c2
  have c3 := h.c3
  by_cases he : er = 0
  · subst he
    by_cases g : k < n
    · have gI : (k : Int) < n := by omega
      have HE : Hid (endE 0 k n = 5) := Lib.hid (by unfold endE; rw [if_pos rfl, if_pos g])
      clear h g
      go_enter Try.func33, Try.ntmps33
      go_wp2_with (fail)
      refine HI.out.mono ?_
      rintro r w1 ⟨rfl, hw1⟩
      rw [hw1]
      clear hw1
      go_wp2_with (fail)
      go_region
      all_goals
        go_wp2_with (fail)
        go_ret
        exact ⟨by rw [HE.out]; rfl, (Ch.refl _ _).drew⟩
    · have gI : ¬ (k : Int) < n := by omega
      have HE : Hid (endE 0 k n = 0) := Lib.hid (by unfold endE; rw [if_pos rfl, if_neg g])
      clear h g
      go_enter Try.func33, Try.ntmps33
      go_wp2_with (fail)
      refine HI.out.mono ?_
      rintro r w1 ⟨rfl, hw1⟩
      rw [hw1]
      clear hw1
      go_wp2_with (fail)
      go_region
      all_goals
        go_wp2_with (fail)
        go_ret
        exact ⟨by rw [HE.out]; rfl, (Ch.refl _ _).drew⟩
  · have gb : (er == 0) = false := by simpa using he
    have HE : Hid (endE er k n = er) := Lib.hid (by unfold endE; rw [if_neg he])
    clear h he
    go_enter Try.func33, Try.ntmps33
    go_wp2_with (fail)
    refine HI.out.mono ?_
    rintro r w1 ⟨rfl, hw1⟩
    rw [hw1]
    clear hw1
    go_wp2_with (fail)
    go_region
    all_goals
      go_wp2_with (fail)
      go_ret
      exact ⟨by rw [HE.out]; rfl, (Ch.refl _ _).drew⟩
set_option maxRecDepth 100000 in
set_option maxHeartbeats 1000000 in
theorem rend_no {r : Value} (h : NoRd w r) : Calls Try.prog 33 #[r] w fun r w' => r = .returned (.int .i64 1) ∧ Ch No w w' := by
  have HI := Lib.hid (err_no h)
  clear h
  go_enter Try.func33, Try.ntmps33
  go_wp2_with (fail)
  refine HI.out.mono ?_
  rintro r w1 ⟨rfl, hw1⟩
  rw [hw1]
  clear hw1
  go_wp2_with (fail)
  go_region
  all_goals
    go_wp2_with (fail)
    go_ret
    exact ⟨rfl, (Ch.refl _ _).drew⟩
end
theorem Rw.and {w : World} {P P' : Nat → Prop} {K : IntKind} {v : Value} {ds : List Int} (h : Rw w P K v ds) (h' : Rw w P' K v ds) : Rw w (fun i => P i ∧ P' i) K v ds := by
  obtain ⟨A, c, rfl, h1, h2, h3⟩ := h
  obtain ⟨A', c', e, -, -, h4⟩ := h'
  injection e with e1 _ e3
  subst e1 e3
  refine ⟨A, c, rfl, h1, h2, fun h0 => ?_⟩
  obtain ⟨b, o, rfl, hP, hb, hk⟩ := h3 h0
  obtain ⟨b', o', e, hP', -⟩ := h4 h0
  injection e with e
  injection e with e1 e2
  subst e1 e2
  exact ⟨b, o, rfl, ⟨hP, hP'⟩, hb, hk⟩
/-- Something else has changed. -/
theorem RdAt.far {E P : Nat → Prop} {w w' : World} {p n c k : Nat} {A : Option Addr} {bd : List Int} {er : Int} (h : RdAt w p A n c bd er k) (hr : Rw w P .u8 (.slice A n c) bd) (hc : Ch E w w') (hp : ¬ E p) (hP : ∀ i, i < w.heap.size → P i → ¬ E i) : RdAt w' p A n c bd er k :=
  ⟨(hc.block p h.lt hp).trans h.1, ((h.2.1.and hr).ch hc fun i hi h' => hP i hi h'.2).mono fun _ _ h' => h'.1, h.2.2⟩
set_option maxRecDepth 100000 in
theorem read_any {w : World} {P : Nat → Prop} {v : Value} {ds : List Int} (h : Rw w P .u8 v ds) (hl : ds.length < 1000000) (hb : Bys8 ds) :
    Calls Try.prog 15 #[v] w fun r w' => ∃ q A c, r = .returned (.pointer (some ⟨q, 0, none⟩)) ∧ w.heap.size ≤ q ∧ RdAt w' q A ds.length c ds 0 0 ∧ Ch No w w' ∧ Rw w' (fun i => w.heap.size ≤ i) .u8 (.slice A ds.length c) ds := by
  have HC := Lib.hid (clone_any h (by omega))
  have HL := Lib.hid hl
  have HB := Lib.hid hb
  have z1 := zInput
  have z2 := zReader
  clear h hl hb
  go_enter Try.func15, Try.ntmps15
  go_wp2_with (fail)
  refine HC.out.mono ?_
  rintro r w1 ⟨v1, rfl, o1, k1⟩
  obtain ⟨A1, c1, rfl⟩ := o1.shape
  have O1 := Lib.hid o1
  have K1 := Lib.hid k1
  clear o1 k1
  go_wp2_with (fail)
  go_ret
  refine ⟨_, A1, c1, rfl, K1.out.size, ⟨heap_alloc_new w1 _, ?_, rfl, Nat.zero_le _, HL.out, HB.out⟩, K1.out.alloc _, (O1.out.rw_.ch (Ch.new w1 _) fun _ _ _ h' => h').mono fun i hi h' => (O1.out.lt h').1⟩
  exact (O1.out.rw_.ch (Ch.new w1 _) fun _ _ _ h' => h').mono fun i hi h' => by have := (O1.out.lt h').2; omega
end Go.Proofs.Ytocdjieaphkbdaa
