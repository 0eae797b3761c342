/- law03's known: the chapter's examples. -/
import Derived.Test.YtmidoicbbgdchaaQd
namespace Go.Proofs.Ytmidoicbbgdchaa
open Go.RowKit

theorem shuffle_no {w : World} {p : Nat} {s : Int} (n : Int) (h : Src w p s) (h1 : n < 0 ∨ 4096 < n) :
    Calls Try.prog 13 #[.pointer (some ⟨p, 0, none⟩), .int .i64 n] w fun e w' => e = .returned (.tuple #[.slice none 0 0, .int .i64 2]) ∧ w' = w := by
  have HI := Lib.hid (is_any h)
  clear h
  go_enter Try.func13, Try.ntmps13
  go_wp2_with (fail)
  refine HI.out.mono ?_
  rintro e w1 ⟨rfl, rfl⟩
  by_cases g : n < 0
  · have g1 : decide (n < 0) = true := by simp; omega
    clear g h1
    go_wp2_with (fail)
    exact bodyPost_ret (v := .tuple #[.slice none 0 0, .int .i64 2]) (by simp [results, Try.results13, go_sem]) rfl ⟨rfl, rfl⟩
  · have g1 : decide (n < 0) = false := by simp; omega
    have g2 : decide ((4096 : Int) < n) = true := by simp; omega
    clear g h1
    go_wp2_with (fail)
    exact bodyPost_ret (v := .tuple #[.slice none 0 0, .int .i64 2]) (by simp [results, Try.results13, go_sem]) rfl ⟨rfl, rfl⟩
theorem new_to {z s : Int} (hz : IntKind.u64.wrap z = s) (w : World) : Calls Try.prog 9 #[.int .i64 z] w fun e w' => e = .returned (.pointer (some ⟨w.heap.size, 0, none⟩)) ∧ Src w' w.heap.size s ∧ Below w.heap.size w w' ∧ w'.heap.size = w.heap.size + 1 := by
  refine (new_any z w).mono ?_
  rintro e w' ⟨rfl, rfl⟩
  rw [hz]
  exact ⟨rfl, Src.new w s, Below.new w _, by simp⟩
theorem word_to {w : World} {p : Nat} {s x : Int} (h : Src w p s) (hx : wd (nx s) = x) : Calls Try.prog 16 #[.pointer (some ⟨p, 0, none⟩)] w fun e w' => e = .returned (.int .u64 x) ∧ Src w' p (nx s) ∧ But p w w' ∧ w'.heap.size = w.heap.size := by
  refine (word_any h).mono ?_
  rintro e w' ⟨rfl, rfl⟩
  rw [hx]
  exact ⟨rfl, h.set_ _, But.set_ _ _ _ _, by simp [World.setCell]⟩
theorem fork_to {w : World} {p : Nat} {s t n : Int} (h : Src w p s) (ht : bits .xor .u64 (wd (nx s)) (IntKind.u64.wrap n) = t) :
    Calls Try.prog 15 #[.pointer (some ⟨p, 0, none⟩), .int .i64 n] w fun e w' => e = .returned (.tuple #[.pointer (some ⟨w.heap.size, 0, none⟩), .int .i64 0]) ∧ Src w' w.heap.size t ∧ Src w' p (nx s) ∧ But p w w' := by
  refine (fork_any n h).mono ?_
  rintro e w' ⟨rfl, rfl⟩
  rw [ht]
  have hsz : (w.setCell ⟨p, 0, none⟩ (.int .u64 (nx s))).heap.size = w.heap.size := by simp [World.setCell]
  have hb := Below.new (w.setCell ⟨p, 0, none⟩ (.int .u64 (nx s))) (.cells #[.int .u64 t, .bool true] 48)
  refine ⟨rfl, ?_, (h.set_ (nx s)).below hb, (But.set_ p 0 w _).trans (But.of_below hb)⟩
  have := Src.new (w.setCell ⟨p, 0, none⟩ (.int .u64 (nx s))) t
  rw [hsz] at this
  exact this
theorem numV_one (s : Int) : numV 1 s = 0 := Int.emod_one _
theorem shufL_one (s : Int) : shufL 1 s = [0] := rfl
theorem word1 : wd (nx 0) = 16294208416658607535 := by decide +kernel
theorem word2 : wd (nx (nx 0)) = 7960286522194355700 := by decide +kernel
theorem word3 : wd (nx (nx (nx 0))) = 487617019471545679 := by decide +kernel

set_option maxRecDepth 100000 in
set_option maxHeartbeats 4000000 in
theorem known_any (w : World) : Calls Try.prog 8 #[] w fun e w' => e = .returned (.bool true) ∧ Below w.heap.size w w' := by
  have B0 := Lib.hid (Below.refl w.heap.size w)
  go_enter Try.func8, Try.ntmps8
  go_wp2_with (fail)
  refine (new_to (z := 0) (s := 0) (by decide) w).mono ?_
  rintro e w1 ⟨rfl, s1, b1, z1⟩
  generalize hp1 : w.heap.size = p1 at *
  have P1 := Lib.hid hp1
  have B1 := Lib.hid b1
  clear B0 b1
  go_wp2_with (fail)
  refine (word_to s1 word1).mono ?_
  rintro e w2 ⟨rfl, s2, b2, z2⟩
  have B2 := Lib.hid (B1.out.trans (b2.below (Nat.le_refl _) (by omega)))
  go_wp2_with (fail)
  refine (word_to s2 word2).mono ?_
  rintro e w3 ⟨rfl, s3, b3, z3⟩
  have B3 := Lib.hid (B2.out.trans (b3.below (Nat.le_refl _) (by omega)))
  go_wp2_with (fail)
  refine (word_to s3 word3).mono ?_
  rintro e w4 ⟨rfl, s4, b4, z4⟩
  have B4 := Lib.hid (B3.out.trans (b4.below (Nat.le_refl _) (by omega)))
  have L4 := Lib.hid (show p1 ≤ w4.heap.size by omega)
  clear B1 B2 B3 s1 s2 s3 s4 b2 b3 b4 z1 z2 z3 z4
  go_wp2_with (fail)
  refine (new_to (z := 5) (s := 5) (by decide) w4).mono ?_
  rintro e w5 ⟨rfl, t1, c1, y1⟩
  have B5 := Lib.hid (B4.out.trans (c1.mono L4.out))
  have L5 := Lib.hid (show p1 ≤ w4.heap.size ∧ w4.heap.size < w5.heap.size from ⟨L4.out, by omega⟩)
  generalize w4.heap.size = p2 at *
  clear B4 L4 c1 y1
  go_wp2_with (fail)
  refine (new_to (z := 7) (s := 7) (by decide) w5).mono ?_
  rintro e w6 ⟨rfl, u1, c2, y2⟩
  have T1 := Lib.hid (t1.below c2)
  have U1 := Lib.hid u1
  have B6 := Lib.hid (B5.out.trans (c2.mono (by have := L5.out; omega)))
  have L6 := Lib.hid (show p1 ≤ p2 ∧ p2 < w5.heap.size ∧ w5.heap.size < w6.heap.size from ⟨L5.out.1, L5.out.2, by omega⟩)
  generalize w5.heap.size = p3 at *
  clear B5 L5 c2 y2 t1 u1
  go_wp2_with (fail)
  refine (number_ok 1 T1.out (by omega) (by omega)).mono ?_
  rw [numV_one]
  generalize numS 1 5 = a1
  rintro e w7 ⟨rfl, t2, b7⟩
  have U2 := Lib.hid (U1.out.but b7 (by have := L6.out; omega))
  have B7 := Lib.hid (B6.out.trans (b7.below L6.out.1 (by have := L6.out; omega)))
  have L7 := Lib.hid (show p1 ≤ p2 ∧ p2 < p3 ∧ p3 < w7.heap.size from ⟨L6.out.1, L6.out.2.1, by have := L6.out; have := b7.size; omega⟩)
  have T2 := Lib.hid t2
  clear B6 L6 U1 T1 t2 b7
  go_wp2_with (fail)
  refine (number_no 0 T2.out (Or.inl (by omega))).mono ?_
  rintro e w7' ⟨rfl, rfl⟩
  go_wp2_with (fail)
  refine (shuffle_any 1 T2.out (by omega)).mono ?_
  rw [shufL_one]
  generalize shufS 1 a1 = a2
  rintro e w8 ⟨rfl, o8, t3, b8⟩
  have U3 := Lib.hid (U2.out.but b8 (by have := L7.out; omega))
  have B8 := Lib.hid (B7.out.trans (b8.below L7.out.1 (by have := L7.out; omega)))
  have T3 := Lib.hid t3
  have O8 := Lib.hid o8
  have L8 := Lib.hid (show p1 ≤ p2 ∧ p2 < p3 ∧ p3 < w7'.heap.size ∧ w7'.heap.size < w8.heap.size from ⟨L7.out.1, L7.out.2.1, L7.out.2.2, o8.lt⟩)
  generalize w7'.heap.size = g at *
  clear B7 L7 U2 T2 t3 b8 o8
  go_wp2_with (fail)
  refine (shuffle_any 0 T3.out (by omega)).mono ?_
  generalize shufS 0 a2 = a3
  generalize shufL 0 a2 = l0
  rintro e w9 ⟨rfl, -, t4, b9⟩
  have U4 := Lib.hid (U3.out.but b9 (by have := L8.out; omega))
  have B9 := Lib.hid (B8.out.trans (b9.below L8.out.1 (by have := L8.out; omega)))
  have T4 := Lib.hid t4
  have O9 := Lib.hid (O8.out.same (b9.block g (by have := L8.out; omega) O8.out.lt))
  have L9 := Lib.hid (show p1 ≤ p2 ∧ p2 < p3 ∧ p3 < g ∧ g < w9.heap.size from ⟨L8.out.1, L8.out.2.1, L8.out.2.2.1, O9.out.lt⟩)
  generalize w8.heap.size = g2 at *
  clear B8 L8 U3 T3 t4 b9 O8
  go_wp2_with (fail)
  refine (shuffle_no 4097 T4.out (Or.inr (by omega))).mono ?_
  rintro e w9' ⟨rfl, rfl⟩
  have cl := O9.out.cellAt (j := 0) (by simp)
  simp only [List.getElem?_cons_zero, Option.getD_some] at cl
  go_wp2_with (fail)
  clear cl
  refine (fork_to (n := 3) (t := bits .xor .u64 (wd (nx 7)) 3) U4.out (by rw [show IntKind.u64.wrap 3 = 3 by decide])).mono ?_
  rintro e w10 ⟨rfl, v1, -, b10⟩
  have B10 := Lib.hid (B9.out.trans (b10.below (by have := L9.out; omega) (by have := L9.out; omega)))
  have V1 := Lib.hid v1
  have LQ := Lib.hid (show p1 ≤ w9'.heap.size ∧ w9'.heap.size < w10.heap.size from ⟨by have := L9.out; omega, v1.lt⟩)
  generalize w9'.heap.size = q at *
  clear B9 L9 U4 T4 O9 b10 v1
  go_wp2_with (fail)
  refine (refNext_any 7 _).mono ?_
  rintro e w10' ⟨rfl, rfl⟩
  go_wp2_with (fail)
  generalize bits .xor .u64 (wd (nx 7)) 3 = x7 at *
  refine (refNext_any x7 _).mono ?_
  rintro e w10'' ⟨rfl, rfl⟩
  go_wp2_with (fail)
  refine (word_to V1.out rfl).mono ?_
  rintro e w11 ⟨rfl, -, b11, -⟩
  have B11 := Lib.hid (B10.out.trans (b11.below LQ.out.1 (by have := LQ.out; omega)))
  clear B10 V1 b11
  go_wp2_with (fail)
  go_ret
  exact ⟨rfl, by rw [P1.out]; exact B11.out⟩
end Go.Proofs.Ytmidoicbbgdchaa
