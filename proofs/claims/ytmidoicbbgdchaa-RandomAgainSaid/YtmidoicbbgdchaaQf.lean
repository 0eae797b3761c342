/- The statement RandomNumbers: the walk. -/
import Derived.Test.YtmidoicbbgdchaaQe
namespace Go.Proofs.Ytmidoicbbgdchaa
open Go.RowKit

theorem below_drewN {B : Nat} {a w : World} (h : Below B a w) (n : Nat) : Below B a (w.drewN n) := ⟨h.os, h.tape, h.output, h.size, h.block⟩
theorem numS_st {n s : Int} : St (numS n s) := fin_st (nx_st s)
set_option maxRecDepth 100000 in
set_option maxHeartbeats 4000000 in
theorem numbers_ok (z n : Int) (w : World) (h1 : 1 ≤ n) (h2 : n ≤ 4611686018427387904) :
    Calls Try.prog 4 #[.int .i64 z, .int .i64 n] w fun e w' => e = .returned (.bool true) ∧ Below w.heap.size w w' := by
  have H1 := Lib.hid h1
  have H2 := Lib.hid h2
  have g1 : decide (n < 1) = false := by simp; omega
  have g2 : decide ((4611686018427387904 : Int) < n) = false := by simp; omega
  have HST := Lib.hid (show St (IntKind.u64.wrap z) by unfold St; rw [IntKind.wrap_u64]; omega)
  have HW := Lib.hid (Below.refl w.heap.size w)
  clear h1 h2
  go_enter Try.func4, Try.ntmps4
  go_wp2_with (fail)
  generalize hs0 : IntKind.u64.wrap z = s0 at *
  refine (new_to hs0 w).mono ?_
  rintro e w1 ⟨rfl, s1, b1, z1⟩
  generalize hp : w.heap.size = p at *
  have HP := Lib.hid hp
  have S1 := Lib.hid s1
  have B1 := Lib.hid b1
  have L1 := Lib.hid (show p < w1.heap.size by omega)
  clear hp s1 b1 z1
  go_wp2_with (fail)
  go_loopw [6, 7, 8, 9, 10, 11] (fun st i _ _ _ _ wr => ∃ (k : Nat) (t : Int), k ≤ 4 ∧ i = .int .i64 k ∧ st = .int .u64 t ∧ Hid (St t) ∧ Hid (Src wr p t) ∧ Hid (Below p w wr) ∧ p < wr.heap.size) (fun _ i _ _ _ _ _ => 4 - (intOf i).toNat)
  case atStart => exact ⟨0, s0, by omega, rfl, rfl, HST, S1, B1, L1.out⟩
  case round =>
    obtain ⟨k, t, hk, rfl, rfl, ht, hs, hb, hl⟩ := hrel
    clear HST S1 B1 L1 hs0
    by_cases gk : k < 4
    · have gI : (k : Int) < 4 := by omega
      go_wp2_with (fail)
      refine (number_ok n hs.out H1.out H2.out).mono ?_
      have HR := Lib.hid (fun w => refNumber_any n t w ht.out H1.out H2.out)
      have HN := Lib.hid (numS_st (n := n) (s := t))
      obtain ⟨v0, v1⟩ := numV_b (s := t) H1.out H2.out
      generalize numS n t = t2 at *
      generalize numV n t = v at *
      rintro e w2 ⟨rfl, s2, b2⟩
      have HS2 := Lib.hid s2
      have HB2 := Lib.hid (hb.out.trans (b2.below (Nat.le_refl _) (Nat.le_of_lt hl)))
      have hl2 : p < w2.heap.size := s2.lt
      have gv0 : decide (v < 0) = false := by simp; omega
      have gv1 : decide (n ≤ v) = false := by simp; omega
      clear hs hb hl s2 b2 v0 v1
      go_wp2_with (fail)
      refine (HR.out _).mono ?_
      rintro e w3 ⟨rfl, q, rfl⟩
      go_wp2_with (fail)
      go_roundw
      case rel => exact ⟨k + 1, t2, by omega, by go_num, rfl, HN, Lib.hid (by exact HS2.out), Lib.hid (below_drewN HB2.out q), hl2⟩
      case measure => simp [intOf]; omega
    · obtain rfl : k = 4 := by omega
      go_wp2_with (fail)
      refine (known_any _).mono ?_
      rintro e w2 ⟨rfl, q2⟩
      have HB2 := Lib.hid (hb.out.trans (q2.mono (Nat.le_of_lt hl)))
      go_wp2_with (fail)
      go_ret
      exact ⟨rfl, by rw [HP.out]; exact HB2.out⟩
set_option maxRecDepth 100000 in
set_option maxHeartbeats 4000000 in
theorem numbers_low (z n : Int) (w : World) (h1 : n < 1) :
    Calls Try.prog 4 #[.int .i64 z, .int .i64 n] w fun e w' => e = .returned (.bool true) ∧ Below w.heap.size w w' := by
  have HN := Lib.hid (show n < 1 ∨ 4611686018427387904 < n from Or.inl h1)
  have g1 : decide (n < 1) = true := by simp; omega
  clear h1
  have HST := Lib.hid (show St (IntKind.u64.wrap z) by unfold St; rw [IntKind.wrap_u64]; omega)
  have HW := Lib.hid (Below.refl w.heap.size w)
  go_enter Try.func4, Try.ntmps4
  go_wp2_with (fail)
  generalize hs0 : IntKind.u64.wrap z = s0 at *
  refine (new_to hs0 w).mono ?_
  rintro e w1 ⟨rfl, s1, b1, z1⟩
  generalize hp : w.heap.size = p at *
  have HP := Lib.hid hp
  have S1 := Lib.hid s1
  have B1 := Lib.hid b1
  have L1 := Lib.hid (show p < w1.heap.size by omega)
  clear hp s1 b1 z1
  go_wp2_with (fail)
  go_loopw [6, 7, 8, 9, 10, 11] (fun st i _ _ _ _ wr => ∃ (k : Nat) (t : Int), k ≤ 4 ∧ i = .int .i64 k ∧ st = .int .u64 t ∧ Hid (St t) ∧ Hid (Src wr p t) ∧ Hid (Below p w wr) ∧ p < wr.heap.size) (fun _ i _ _ _ _ _ => 4 - (intOf i).toNat)
  case atStart => exact ⟨0, s0, by omega, rfl, rfl, HST, S1, B1, L1.out⟩
  case round =>
    obtain ⟨k, t, hk, rfl, rfl, ht, hs, hb, hl⟩ := hrel
    clear HST S1 B1 L1 hs0
    by_cases gk : k < 4
    · have gI : (k : Int) < 4 := by omega
      go_wp2_with (fail)
      refine (number_no n hs.out HN.out).mono ?_
      rintro e w2 ⟨rfl, rfl⟩
      go_wp2_with (fail)
      go_roundw
      case rel => exact ⟨k + 1, t, by omega, by go_num, rfl, ht, hs, hb, hl⟩
      case measure => simp [intOf]; omega
    · obtain rfl : k = 4 := by omega
      go_wp2_with (fail)
      refine (known_any _).mono ?_
      rintro e w2 ⟨rfl, q2⟩
      have HB2 := Lib.hid (hb.out.trans (q2.mono (Nat.le_of_lt hl)))
      go_wp2_with (fail)
      go_ret
      exact ⟨rfl, by rw [HP.out]; exact HB2.out⟩
set_option maxRecDepth 100000 in
set_option maxHeartbeats 4000000 in
theorem numbers_high (z n : Int) (w : World) (h1 : 4611686018427387904 < n) :
    Calls Try.prog 4 #[.int .i64 z, .int .i64 n] w fun e w' => e = .returned (.bool true) ∧ Below w.heap.size w w' := by
  have HN := Lib.hid (show n < 1 ∨ 4611686018427387904 < n from Or.inr h1)
  have g1 : decide (n < 1) = false := by simp; omega
  have g2 : decide ((4611686018427387904 : Int) < n) = true := by simp; omega
  clear h1
  have HST := Lib.hid (show St (IntKind.u64.wrap z) by unfold St; rw [IntKind.wrap_u64]; omega)
  have HW := Lib.hid (Below.refl w.heap.size w)
  go_enter Try.func4, Try.ntmps4
  go_wp2_with (fail)
  generalize hs0 : IntKind.u64.wrap z = s0 at *
  refine (new_to hs0 w).mono ?_
  rintro e w1 ⟨rfl, s1, b1, z1⟩
  generalize hp : w.heap.size = p at *
  have HP := Lib.hid hp
  have S1 := Lib.hid s1
  have B1 := Lib.hid b1
  have L1 := Lib.hid (show p < w1.heap.size by omega)
  clear hp s1 b1 z1
  go_wp2_with (fail)
  go_loopw [6, 7, 8, 9, 10, 11] (fun st i _ _ _ _ wr => ∃ (k : Nat) (t : Int), k ≤ 4 ∧ i = .int .i64 k ∧ st = .int .u64 t ∧ Hid (St t) ∧ Hid (Src wr p t) ∧ Hid (Below p w wr) ∧ p < wr.heap.size) (fun _ i _ _ _ _ _ => 4 - (intOf i).toNat)
  case atStart => exact ⟨0, s0, by omega, rfl, rfl, HST, S1, B1, L1.out⟩
  case round =>
    obtain ⟨k, t, hk, rfl, rfl, ht, hs, hb, hl⟩ := hrel
    clear HST S1 B1 L1 hs0
    by_cases gk : k < 4
    · have gI : (k : Int) < 4 := by omega
      go_wp2_with (fail)
      refine (number_no n hs.out HN.out).mono ?_
      rintro e w2 ⟨rfl, rfl⟩
      go_wp2_with (fail)
      go_roundw
      case rel => exact ⟨k + 1, t, by omega, by go_num, rfl, ht, hs, hb, hl⟩
      case measure => simp [intOf]; omega
    · obtain rfl : k = 4 := by omega
      go_wp2_with (fail)
      refine (known_any _).mono ?_
      rintro e w2 ⟨rfl, q2⟩
      have HB2 := Lib.hid (hb.out.trans (q2.mono (Nat.le_of_lt hl)))
      go_wp2_with (fail)
      go_ret
      exact ⟨rfl, by rw [HP.out]; exact HB2.out⟩
theorem numbers_any (z n : Int) (w : World) : Calls Try.prog 4 #[.int .i64 z, .int .i64 n] w fun e w' => e = .returned (.bool true) ∧ Below w.heap.size w w' := by
  by_cases h1 : n < 1
  · exact numbers_low z n w h1
  · by_cases h2 : 4611686018427387904 < n
    · exact numbers_high z n w h2
    · exact numbers_ok z n w (by omega) (by omega)
end Go.Proofs.Ytmidoicbbgdchaa
