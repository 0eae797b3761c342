/- Package wire: the first error; a writer's parts. -/
import Derived.Test.YtocdjieaphkbdaaWb
namespace Go.Proofs.Ytocdjieaphkbdaa
open Go.RowKit

/-! ### The first error -/
theorem fail_0 {w : World} {p o : Nat} {e : Int} (hc : w.cell? ⟨p, o, none⟩ = some (.int .i64 0)) (hz : w.frozen? ⟨p, o, none⟩ = false) :
    Calls Try.prog 66 #[.pointer (some ⟨p, o, none⟩), .int .i64 e] w fun r w' => r = .returned (.tuple #[]) ∧ w' = w.setCell ⟨p, o, none⟩ (.int .i64 e) := by
  go_enter Try.func66, Try.ntmps66
  go_wp2
  go_end0
  exact ⟨rfl, rfl⟩
theorem fail_1 {w : World} {p o : Nat} {e e0 : Int} (hc : w.cell? ⟨p, o, none⟩ = some (.int .i64 e0)) (he : ¬ e0 = 0) :
    Calls Try.prog 66 #[.pointer (some ⟨p, o, none⟩), .int .i64 e] w fun r w' => r = .returned (.tuple #[]) ∧ w' = w := by
  go_enter Try.func66, Try.ntmps66
  go_wp2
  go_end0
  exact ⟨rfl, rfl⟩
theorem failed_0 {w : World} {p o : Nat} (hc : w.cell? ⟨p, o, none⟩ = some (.int .i64 0)) :
    Calls Try.prog 46 #[.pointer (some ⟨p, o, none⟩)] w fun r w' => r = .returned (.bool false) ∧ w' = w := by
  go_enter Try.func46, Try.ntmps46
  go_wp2
  go_ret
  exact ⟨rfl, rfl⟩
theorem failed_1 {w : World} {p o : Nat} {e0 : Int} (hc : w.cell? ⟨p, o, none⟩ = some (.int .i64 e0)) (he : ¬ e0 = 0) :
    Calls Try.prog 46 #[.pointer (some ⟨p, o, none⟩)] w fun r w' => r = .returned (.bool true) ∧ w' = w := by
  have hb : (e0 != 0) = true := by simpa using he
  go_enter Try.func46, Try.ntmps46
  go_wp2
  go_ret
  exact ⟨rfl, rfl⟩

/-! ### A writer -/
structure Wst where
  er : Int
  out : List Int
/-- Block p is a writer in the state x, whose encoding is the slice v. -/
def WrAt (w : World) (p : Nat) (v : Value) (x : Wst) : Prop :=
  w.heap[p]? = some (.cells #[.int .i64 x.er, v] 30 (0, 0)) ∧ (x.er = 0 → Ow 5 .u8 w (p + 1) v x.out ∧ x.out.length ≤ 65536)
section
variable {E : Nat → Prop} {w w' : World} {p : Nat} {v : Value} {x : Wst}
theorem WrAt.lt (h : WrAt w p v x) : p < w.heap.size := (Array.getElem?_eq_some_iff.1 h.1).1
theorem WrAt.c0 (h : WrAt w p v x) : w.cell? ⟨p, 0, none⟩ = some (.int .i64 x.er) := by rw [cell_of_row w p 0 _ 30 (0, 0) h.1]; rfl
theorem WrAt.c1 (h : WrAt w p v x) : w.cell? ⟨p, 1, none⟩ = some v := by rw [cell_of_row w p 1 _ 30 (0, 0) h.1]; rfl
theorem WrAt.free (h : WrAt w p v x) (k : Nat) : w.frozen? ⟨p, k, none⟩ = false := by simp [World.frozen?, h.1]
theorem WrAt.ch (h : WrAt w p v x) (hc : Ch E w w') (hp : ¬ E p) (hv : ∀ b, v.ownBlock = some b → ¬ E b) : WrAt w' p v x :=
  ⟨(hc.block p h.lt hp).trans h.1, fun e => ⟨(h.2 e).1.ch hc hv, (h.2 e).2⟩⟩
theorem WrAt.no (h : WrAt w p v x) (hc : Ch No w w') : WrAt w' p v x := h.ch hc (fun h' => h') fun _ _ h' => h'
/-- Block p is a writer without an error, whose encoding is the slice v. -/
def Wr0 (w : World) (p : Nat) (v : Value) : Prop := w.heap[p]? = some (.cells #[.int .i64 0, v] 30 (0, 0))
theorem WrAt.zero {y : List Int} (h : WrAt w p v ⟨0, y⟩) : Wr0 w p v := h.1
theorem Wr0.lt (h : Wr0 w p v) : p < w.heap.size := (Array.getElem?_eq_some_iff.1 h).1
theorem Wr0.ch (h : Wr0 w p v) (hc : Ch E w w') (hp : ¬ E p) : Wr0 w' p v := (hc.block p h.lt hp).trans h
theorem Wr0.c0 (h : Wr0 w p v) : w.cell? ⟨p, 0, none⟩ = some (.int .i64 0) := by rw [cell_of_row w p 0 _ 30 (0, 0) h]; rfl
theorem Wr0.c1 (h : Wr0 w p v) : w.cell? ⟨p, 1, none⟩ = some v := by rw [cell_of_row w p 1 _ 30 (0, 0) h]; rfl
theorem Wr0.free (h : Wr0 w p v) (k : Nat) : w.frozen? ⟨p, k, none⟩ = false := by unfold Wr0 at h; simp [World.frozen?, h]
theorem Wr0.bad (h : Wr0 w p v) {e : Int} (he : ¬ e = 0) (y : List Int) : WrAt (w.setCell ⟨p, 0, none⟩ (.int .i64 e)) p v ⟨e, y⟩ := by
  refine ⟨?_, fun e' => absurd e' he⟩
  rw [heap_setCell_same w p 0 _ 30 _ h]
  rfl
theorem Wr0.to (h : Wr0 w p v) {v' : Value} {y : List Int} (ho : Ow 5 .u8 w (p + 1) v' y) (hy : y.length ≤ 65536) : WrAt (w.setCell ⟨p, 1, none⟩ v') p v' ⟨0, y⟩ := by
  refine ⟨?_, fun _ => ⟨ho.ch (Ch.put w p 1 v') (fun b hb e => by have := (ho.lt hb).1; omega), hy⟩⟩
  rw [heap_setCell_same w p 1 _ 30 _ h]
  rfl
theorem WrAt.new (w : World) : WrAt (w.alloc (.cells #[.int .i64 0, .slice none 0 0] 30)) w.heap.size (.slice none 0 0) ⟨0, []⟩ := ⟨heap_alloc_new w _, fun _ => ⟨Ow.nil_, by simp⟩⟩
end
/-- Writing bytes. -/
def wr (x : Wst) (bs : List Int) : Wst := if x.er = 0 then (if 65536 < (x.out ++ bs).length then ⟨7, x.out⟩ else ⟨0, x.out ++ bs⟩) else x
/-- What may change: the writer, and where its encoding lies. -/
def At (p : Nat) (v : Value) : Nat → Prop := fun i => i = p ∨ Of v i
theorem ready_0 {w : World} {p : Nat} {v : Value} {y : List Int} (h : WrAt w p v ⟨0, y⟩) :
    Calls Try.prog 67 #[.pointer (some ⟨p, 0, none⟩)] w fun r w' => r = .returned (.bool true) ∧ w' = w := by
  have H := Lib.hid (failed_0 h.c0)
  clear h
  go_enter Try.func67, Try.ntmps67
  go_wp2_with (fail)
  refine H.out.mono ?_
  rintro e w1 ⟨rfl, rfl⟩
  go_wp2_with (fail)
  go_ret
  exact ⟨rfl, rfl⟩
theorem ready_1 {w : World} {p : Nat} {v : Value} {x : Wst} (h : WrAt w p v x) (he : ¬ x.er = 0) :
    Calls Try.prog 67 #[.pointer (some ⟨p, 0, none⟩)] w fun r w' => r = .returned (.bool false) ∧ w' = w := by
  have H := Lib.hid (failed_1 h.c0 he)
  clear h he
  go_enter Try.func67, Try.ntmps67
  go_wp2_with (fail)
  refine H.out.mono ?_
  rintro e w1 ⟨rfl, rfl⟩
  go_wp2_with (fail)
  go_ret
  exact ⟨rfl, rfl⟩
theorem ready_n {w : World} : Calls Try.prog 67 #[.pointer none] w fun r w' => r = .returned (.bool false) ∧ w' = w := by
  go_enter Try.func67, Try.ntmps67
  go_wp2_with (fail)
  go_ret
  exact ⟨rfl, rfl⟩
/-- keep: a longer encoding, or ErrFull. -/
theorem keep_any {w : World} {p : Nat} {v v2 : Value} {z : List Int} (y : List Int) (h : Wr0 w p v) (ho : Ow 5 .u8 w (p + 1) v2 z) (hz : z.length < 100000000) :
    Calls Try.prog 68 #[.pointer (some ⟨p, 0, none⟩), v2] w fun r w' => r = .returned (.tuple #[]) ∧
      ∃ v', WrAt w' p v' (if 65536 < z.length then ⟨7, y⟩ else ⟨0, z⟩) ∧ Ch (fun i => i = p) w w' ∧ (v' = v ∨ v' = v2) := by
  obtain ⟨A, c, rfl⟩ := ho.shape
  by_cases g : 65536 < z.length
  · have gI : (65536 : Int) < z.length := by omega
    have H := Lib.hid (fail_0 (e := 7) h.c0 (h.free 0))
    have HB := Lib.hid (h.bad (e := 7) (by decide) y)
    clear h ho
    rw [if_pos g]
    go_enter Try.func68, Try.ntmps68
    go_wp2_with (fail)
    refine H.out.mono ?_
    rintro e w1 ⟨rfl, rfl⟩
    go_wp2_with (fail)
    first | go_end0 | refine bodyPost_ret (results_none rfl _ _ _) rfl ?_
    exact ⟨rfl, v, HB.out, Ch.put _ _ _ _, .inl rfl⟩
  · have gI : ¬ (65536 : Int) < z.length := by omega
    have c1 := h.c1
    have f1 := h.free 1
    have HB := Lib.hid (h.to ho (by omega))
    clear h ho
    rw [if_neg g]
    go_enter Try.func68, Try.ntmps68
    go_wp2_with (fail)
    first | go_end0 | refine bodyPost_ret (results_none rfl _ _ _) rfl ?_
    exact ⟨rfl, _, HB.out, Ch.put _ _ _ _, .inr rfl⟩
/-- hasRoom. -/
theorem room_0 {w : World} {p n : Nat} {v : Value} (h : Wr0 w p v) (hn : n ≤ 65536) :
    Calls Try.prog 71 #[.pointer (some ⟨p, 0, none⟩), .int .i64 n] w fun r w' => r = .returned (.bool true) ∧ w' = w := by
  have H := Lib.hid (failed_0 h.c0)
  have gI : ¬ (65536 : Int) < n := by omega
  clear h
  go_enter Try.func71, Try.ntmps71
  go_wp2_with (fail)
  refine H.out.mono ?_
  rintro e w1 ⟨rfl, rfl⟩
  go_wp2_with (fail)
  go_ret
  exact ⟨rfl, rfl⟩
theorem room_1 {w : World} {p n : Nat} {v : Value} (h : Wr0 w p v) (hn : 65536 < n) :
    Calls Try.prog 71 #[.pointer (some ⟨p, 0, none⟩), .int .i64 n] w fun r w' => r = .returned (.bool false) ∧ w' = w.setCell ⟨p, 0, none⟩ (.int .i64 7) := by
  have H := Lib.hid (fail_0 (e := 7) h.c0 (h.free 0))
  have HF := Lib.hid (failed_1 (h.bad (e := 7) (by decide) []).c0 (by show ¬ (7 : Int) = 0; decide))
  have gI : (65536 : Int) < n := by omega
  clear h
  go_enter Try.func71, Try.ntmps71
  go_wp2_with (fail)
  refine H.out.mono ?_
  rintro e w1 ⟨rfl, rfl⟩
  go_wp2_with (fail)
  refine HF.out.mono ?_
  rintro e w2 ⟨rfl, rfl⟩
  go_wp2_with (fail)
  go_ret
  exact ⟨rfl, rfl⟩
end Go.Proofs.Ytocdjieaphkbdaa
