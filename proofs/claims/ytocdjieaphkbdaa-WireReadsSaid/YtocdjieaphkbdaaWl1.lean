/- Package wire: next: the deferred closures. -/
import Derived.Test.YtocdjieaphkbdaaWl0
namespace Go.Proofs.Ytocdjieaphkbdaa
open Go.RowKit

theorem catchI_panic (q p : Nat) (e : Int) (older : List PanicEntry) (w : World) (hq : w.cell? ⟨q, 0, none⟩ = some (.pointer (some ⟨p, 0, none⟩))) (hc : w.cell? ⟨p, 0, none⟩ = some (.int .i64 0)) (hz : w.frozen? ⟨p, 0, none⟩ = false) :
    CallsD Try.prog 72 #[.pointer (some ⟨q, 0, none⟩)] (.panicking ({ v := .iface 25 (.int .i64 e), recovered := false } :: older)) w fun r u' w' =>
      r = .returned (.tuple #[]) ∧ u' = .panicking ({ v := .iface 25 (.int .i64 e), recovered := true } :: older) ∧ w' = w.setCell ⟨p, 0, none⟩ (.int .i64 e) := by
  have H := Lib.hid (fail_0 (e := e) hc hz)
  refine callsD_of_wpS Try.func72 rfl fun c₀ cs hu => ?_
  apply wpS_seq
  apply wpS_region
  simp only [Try.ntmps72, List.size_toArray, List.length_cons, List.length_nil, Nat.reduceAdd, Nat.reduceSub, Array.replicate_succ, Array.replicate_zero, List.push_toArray, List.append_toArray, List.nil_append, List.cons_append]
  simp [wpOpsS, go_sem, recoverD, hu, Exit.thenS, assert_yes]
  clear hc hz
  refine wpS_of_wp ?_
  go_wp2_with (fail)
  refine H.out.mono ?_
  rintro r w1 ⟨rfl, rfl⟩
  go_wp2_with (fail)
  first | exact ⟨rfl, _, rfl, _, results_none rfl _ _ _, rfl, rfl, rfl⟩ | (simp [bodyPostS, results, Try.results72])
theorem catchI_idle (q : Nat) (w : World) :
    CallsD Try.prog 72 #[.pointer (some ⟨q, 0, none⟩)] .returning w fun r u' w' => r = .returned (.tuple #[]) ∧ u' = .returning ∧ w' = w := by
  refine callsD_of_wpS Try.func72 rfl fun c₀ cs hu => ?_
  apply wpS_seq
  apply wpS_region
  simp only [Try.ntmps72, List.size_toArray, List.length_cons, List.length_nil, Nat.reduceAdd, Nat.reduceSub, Array.replicate_succ, Array.replicate_zero, List.push_toArray, List.append_toArray, List.nil_append, List.cons_append]
  simp [wpOpsS, go_sem, recoverD, hu, Exit.thenS, assert_no]
  refine wpS_of_wp ?_
  go_wp2_with (fail)
  cases c₀
  simp_all [bodyPostS, results, Try.results72]
theorem catchB_panic (q p : Nat) (e : Int) (older : List PanicEntry) (w : World) (hq : w.cell? ⟨q, 0, none⟩ = some (.pointer (some ⟨p, 0, none⟩))) (hc : w.cell? ⟨p, 0, none⟩ = some (.int .i64 0)) (hz : w.frozen? ⟨p, 0, none⟩ = false) :
    CallsD Try.prog 74 #[.pointer (some ⟨q, 0, none⟩)] (.panicking ({ v := .iface 25 (.int .i64 e), recovered := false } :: older)) w fun r u' w' =>
      r = .returned (.tuple #[]) ∧ u' = .panicking ({ v := .iface 25 (.int .i64 e), recovered := true } :: older) ∧ w' = w.setCell ⟨p, 0, none⟩ (.int .i64 e) := by
  have H := Lib.hid (fail_0 (e := e) hc hz)
  refine callsD_of_wpS Try.func74 rfl fun c₀ cs hu => ?_
  apply wpS_seq
  apply wpS_region
  simp only [Try.ntmps74, List.size_toArray, List.length_cons, List.length_nil, Nat.reduceAdd, Nat.reduceSub, Array.replicate_succ, Array.replicate_zero, List.push_toArray, List.append_toArray, List.nil_append, List.cons_append]
  simp [wpOpsS, go_sem, recoverD, hu, Exit.thenS, assert_yes]
  clear hc hz
  refine wpS_of_wp ?_
  go_wp2_with (fail)
  refine H.out.mono ?_
  rintro r w1 ⟨rfl, rfl⟩
  go_wp2_with (fail)
  first | exact ⟨rfl, _, rfl, _, results_none rfl _ _ _, rfl, rfl, rfl⟩ | (simp [bodyPostS, results, Try.results74])
theorem catchB_idle (q : Nat) (w : World) :
    CallsD Try.prog 74 #[.pointer (some ⟨q, 0, none⟩)] .returning w fun r u' w' => r = .returned (.tuple #[]) ∧ u' = .returning ∧ w' = w := by
  refine callsD_of_wpS Try.func74 rfl fun c₀ cs hu => ?_
  apply wpS_seq
  apply wpS_region
  simp only [Try.ntmps74, List.size_toArray, List.length_cons, List.length_nil, Nat.reduceAdd, Nat.reduceSub, Array.replicate_succ, Array.replicate_zero, List.push_toArray, List.append_toArray, List.nil_append, List.cons_append]
  simp [wpOpsS, go_sem, recoverD, hu, Exit.thenS, assert_no]
  refine wpS_of_wp ?_
  go_wp2_with (fail)
  cases c₀
  simp_all [bodyPostS, results, Try.results74]
theorem catchY_panic (q p : Nat) (e : Int) (older : List PanicEntry) (w : World) (hq : w.cell? ⟨q, 0, none⟩ = some (.pointer (some ⟨p, 0, none⟩))) (hc : w.cell? ⟨p, 0, none⟩ = some (.int .i64 0)) (hz : w.frozen? ⟨p, 0, none⟩ = false) :
    CallsD Try.prog 76 #[.pointer (some ⟨q, 0, none⟩)] (.panicking ({ v := .iface 25 (.int .i64 e), recovered := false } :: older)) w fun r u' w' =>
      r = .returned (.tuple #[]) ∧ u' = .panicking ({ v := .iface 25 (.int .i64 e), recovered := true } :: older) ∧ w' = w.setCell ⟨p, 0, none⟩ (.int .i64 e) := by
  have H := Lib.hid (fail_0 (e := e) hc hz)
  refine callsD_of_wpS Try.func76 rfl fun c₀ cs hu => ?_
  apply wpS_seq
  apply wpS_region
  simp only [Try.ntmps76, List.size_toArray, List.length_cons, List.length_nil, Nat.reduceAdd, Nat.reduceSub, Array.replicate_succ, Array.replicate_zero, List.push_toArray, List.append_toArray, List.nil_append, List.cons_append]
  simp [wpOpsS, go_sem, recoverD, hu, Exit.thenS, assert_yes]
  clear hc hz
  refine wpS_of_wp ?_
  go_wp2_with (fail)
  refine H.out.mono ?_
  rintro r w1 ⟨rfl, rfl⟩
  go_wp2_with (fail)
  first | exact ⟨rfl, _, rfl, _, results_none rfl _ _ _, rfl, rfl, rfl⟩ | (simp [bodyPostS, results, Try.results76])
theorem catchY_idle (q : Nat) (w : World) :
    CallsD Try.prog 76 #[.pointer (some ⟨q, 0, none⟩)] .returning w fun r u' w' => r = .returned (.tuple #[]) ∧ u' = .returning ∧ w' = w := by
  refine callsD_of_wpS Try.func76 rfl fun c₀ cs hu => ?_
  apply wpS_seq
  apply wpS_region
  simp only [Try.ntmps76, List.size_toArray, List.length_cons, List.length_nil, Nat.reduceAdd, Nat.reduceSub, Array.replicate_succ, Array.replicate_zero, List.push_toArray, List.append_toArray, List.nil_append, List.cons_append]
  simp [wpOpsS, go_sem, recoverD, hu, Exit.thenS, assert_no]
  refine wpS_of_wp ?_
  go_wp2_with (fail)
  cases c₀
  simp_all [bodyPostS, results, Try.results76]
theorem catchS_panic (q p : Nat) (e : Int) (older : List PanicEntry) (w : World) (hq : w.cell? ⟨q, 0, none⟩ = some (.pointer (some ⟨p, 0, none⟩))) (hc : w.cell? ⟨p, 0, none⟩ = some (.int .i64 0)) (hz : w.frozen? ⟨p, 0, none⟩ = false) :
    CallsD Try.prog 77 #[.pointer (some ⟨q, 0, none⟩)] (.panicking ({ v := .iface 25 (.int .i64 e), recovered := false } :: older)) w fun r u' w' =>
      r = .returned (.tuple #[]) ∧ u' = .panicking ({ v := .iface 25 (.int .i64 e), recovered := true } :: older) ∧ w' = w.setCell ⟨p, 0, none⟩ (.int .i64 e) := by
  have H := Lib.hid (fail_0 (e := e) hc hz)
  refine callsD_of_wpS Try.func77 rfl fun c₀ cs hu => ?_
  apply wpS_seq
  apply wpS_region
  simp only [Try.ntmps77, List.size_toArray, List.length_cons, List.length_nil, Nat.reduceAdd, Nat.reduceSub, Array.replicate_succ, Array.replicate_zero, List.push_toArray, List.append_toArray, List.nil_append, List.cons_append]
  simp [wpOpsS, go_sem, recoverD, hu, Exit.thenS, assert_yes]
  clear hc hz
  refine wpS_of_wp ?_
  go_wp2_with (fail)
  refine H.out.mono ?_
  rintro r w1 ⟨rfl, rfl⟩
  go_wp2_with (fail)
  first | exact ⟨rfl, _, rfl, _, results_none rfl _ _ _, rfl, rfl, rfl⟩ | (simp [bodyPostS, results, Try.results77])
theorem catchS_idle (q : Nat) (w : World) :
    CallsD Try.prog 77 #[.pointer (some ⟨q, 0, none⟩)] .returning w fun r u' w' => r = .returned (.tuple #[]) ∧ u' = .returning ∧ w' = w := by
  refine callsD_of_wpS Try.func77 rfl fun c₀ cs hu => ?_
  apply wpS_seq
  apply wpS_region
  simp only [Try.ntmps77, List.size_toArray, List.length_cons, List.length_nil, Nat.reduceAdd, Nat.reduceSub, Array.replicate_succ, Array.replicate_zero, List.push_toArray, List.append_toArray, List.nil_append, List.cons_append]
  simp [wpOpsS, go_sem, recoverD, hu, Exit.thenS, assert_no]
  refine wpS_of_wp ?_
  go_wp2_with (fail)
  cases c₀
  simp_all [bodyPostS, results, Try.results77]
theorem catchL_panic (q p : Nat) (e : Int) (older : List PanicEntry) (w : World) (hq : w.cell? ⟨q, 0, none⟩ = some (.pointer (some ⟨p, 0, none⟩))) (hc : w.cell? ⟨p, 0, none⟩ = some (.int .i64 0)) (hz : w.frozen? ⟨p, 0, none⟩ = false) :
    CallsD Try.prog 78 #[.pointer (some ⟨q, 0, none⟩)] (.panicking ({ v := .iface 25 (.int .i64 e), recovered := false } :: older)) w fun r u' w' =>
      r = .returned (.tuple #[]) ∧ u' = .panicking ({ v := .iface 25 (.int .i64 e), recovered := true } :: older) ∧ w' = w.setCell ⟨p, 0, none⟩ (.int .i64 e) := by
  have H := Lib.hid (fail_0 (e := e) hc hz)
  refine callsD_of_wpS Try.func78 rfl fun c₀ cs hu => ?_
  apply wpS_seq
  apply wpS_region
  simp only [Try.ntmps78, List.size_toArray, List.length_cons, List.length_nil, Nat.reduceAdd, Nat.reduceSub, Array.replicate_succ, Array.replicate_zero, List.push_toArray, List.append_toArray, List.nil_append, List.cons_append]
  simp [wpOpsS, go_sem, recoverD, hu, Exit.thenS, assert_yes]
  clear hc hz
  refine wpS_of_wp ?_
  go_wp2_with (fail)
  refine H.out.mono ?_
  rintro r w1 ⟨rfl, rfl⟩
  go_wp2_with (fail)
  first | exact ⟨rfl, _, rfl, _, results_none rfl _ _ _, rfl, rfl, rfl⟩ | (simp [bodyPostS, results, Try.results78])
theorem catchL_idle (q : Nat) (w : World) :
    CallsD Try.prog 78 #[.pointer (some ⟨q, 0, none⟩)] .returning w fun r u' w' => r = .returned (.tuple #[]) ∧ u' = .returning ∧ w' = w := by
  refine callsD_of_wpS Try.func78 rfl fun c₀ cs hu => ?_
  apply wpS_seq
  apply wpS_region
  simp only [Try.ntmps78, List.size_toArray, List.length_cons, List.length_nil, Nat.reduceAdd, Nat.reduceSub, Array.replicate_succ, Array.replicate_zero, List.push_toArray, List.append_toArray, List.nil_append, List.cons_append]
  simp [wpOpsS, go_sem, recoverD, hu, Exit.thenS, assert_no]
  refine wpS_of_wp ?_
  go_wp2_with (fail)
  cases c₀
  simp_all [bodyPostS, results, Try.results78]
end Go.Proofs.Ytocdjieaphkbdaa
