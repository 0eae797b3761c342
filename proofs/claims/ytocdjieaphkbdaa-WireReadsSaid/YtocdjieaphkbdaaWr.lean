/- law06's known: the chapter's examples. -/
import Derived.Test.YtocdjieaphkbdaaWr0
import Derived.Lib.SmallJoins
namespace Go.Proofs.Ytocdjieaphkbdaa
open Go.RowKit

theorem WrAt.over {w0 w1 w2 : World} {p : Nat} {v : Value} {y : List Int} (h : WrAt w1 p v ⟨0, y⟩) (k : Ch (At p v) w1 w2) (k0 : Ch No w0 w1) (hp : w0.heap.size ≤ p) : Ch No w0 w2 :=
  k0.trans k fun i hi e => by
    rcases e with e | e
    · omega
    · have := ((h.2 rfl).1.lt e).1; omega
theorem WrAt.vlt {w1 : World} {p : Nat} {v : Value} {y : List Int} (h : WrAt w1 p v ⟨0, y⟩) : ∀ b, v.ownBlock = some b → b < w1.heap.size := fun _ e => ((h.2 rfl).1.lt e).2
theorem WrAt.rel {w1 w2 : World} {p : Nat} {v : Value} {x : Wst} (h : WrAt w1 p v x) {E : Nat → Prop} (k : Ch E w1 w2) (hp : ¬ E p) (hv : ∀ b, v.ownBlock = some b → ¬ E b) : WrAt w2 p v x := h.ch k hp hv
theorem Ow.new2 (w : World) (a b : Int) : Rw (w.alloc (.cells #[.int .i64 a, .int .i64 b] 3)) (fun i => i = w.heap.size) .i64 (.slice (some ⟨w.heap.size, 0, none⟩) 2 2) [a, b] :=
  (Ow.new (T := 3) (K := .i64) (w := w) (B := w.heap.size) (cs := [a, b]) rfl (show 2 < 1000000 by decide) (Nat.le_refl _)).rw_.mono fun i _ h => by simpa [Of, Value.ownBlock, eq_comm] using h
theorem new_bytes (w : World) (ds : List Int) (n : Nat) (hn : ds.length = n) (h : n < 1000000) : Rw (w.alloc (.cells (ds.map (Value.int .u8)).toArray 5)) (fun i => i = w.heap.size) .u8 (.slice (some ⟨w.heap.size, 0, none⟩) n n) ds :=
  (Ow.new (T := 5) (K := .u8) (w := w) (B := w.heap.size) (cs := ds) hn h (Nat.le_refl _)).rw_.mono fun i _ h => by simpa [Of, Value.ownBlock, eq_comm] using h
theorem new_const (w : World) (x : Int) : Rw (w.alloc (.cells #[.int .u8 x] 5 (1, 2))) (fun i => i = w.heap.size) .u8 (.slice (some ⟨w.heap.size, 0, none⟩) 1 1) [x] :=
  Rw.one rfl (by rw [cell_of_row _ _ _ _ 5 (1, 2) (heap_alloc_new w _)]; rfl)
set_option maxRecDepth 100000 in
set_option maxHeartbeats 8000000 in
theorem known_any (w : World) : Calls Try.prog 11 #[] w fun e w' => e = .returned (.bool true) ∧ Ch No w w' := by
  obtain ⟨p, hp⟩ : ∃ p, w.heap.size = p := ⟨_, rfl⟩
  have HP := Lib.hid hp
  have HW : Hid (WrAt (w.alloc (.cells #[.int .i64 0, .slice none 0 0] 30)) p (.slice none 0 0) ⟨0, []⟩) := Lib.hid (by rw [← hp]; exact WrAt.new w)
  have K0 := Lib.hid (Ch.new w (.cells #[.int .i64 0, .slice none 0 0] 30))
  go_enter Try.func11, Try.ntmps11
  go_wp2_with (fail)
  refine (uint_any (n := 300) HW.out (by decide)).mono ?_
  rintro r w1 ⟨rfl, v1, h1, k1, -⟩
  rw [kn1] at h1
  have K1 := Lib.hid (HW.out.over k1 K0.out (Nat.le_of_eq HP.out))
  have H1 := Lib.hid h1
  clear h1 k1 HW K0
  go_wp2_with (fail)
  refine (int_any (n := -64) H1.out (by decide) (by decide)).mono ?_
  rintro r w2 ⟨rfl, v2, h2, k2, -⟩
  rw [kn2] at h2
  have K2 := Lib.hid (H1.out.over k2 K1.out (Nat.le_of_eq HP.out))
  have H2 := Lib.hid h2
  clear h2 k2 H1 K1
  go_wp2_with (fail)
  refine (int_any (n := -9223372036854775808) H2.out (by decide) (by decide)).mono ?_
  rintro r w3 ⟨rfl, v3, h3, k3, -⟩
  rw [kn3] at h3
  have K3 := Lib.hid (H2.out.over k3 K2.out (Nat.le_of_eq HP.out))
  have H3 := Lib.hid h3
  clear h3 k3 H2 K2
  go_wp2_with (fail)
  refine (bool_any (b := true) H3.out).mono ?_
  rintro r w4 ⟨rfl, v4, h4, k4, -⟩
  rw [kn4] at h4
  have K4 := Lib.hid (H3.out.over k4 K3.out (Nat.le_of_eq HP.out))
  have H4 := Lib.hid h4
  clear h4 k4 H3 K3
  go_wp2_with (fail)
  refine (string_any (s := ⟨#[97, 98]⟩) H4.out H4.out.vlt).mono ?_
  rintro r w5 ⟨rfl, v5, h5, k5, -⟩
  rw [kn5] at h5
  have K5 := Lib.hid (H4.out.over k5 K4.out (Nat.le_of_eq HP.out))
  have H5 := Lib.hid h5
  clear h5 k5 H4 K4
  have HL := Lib.hid (ints_any (H5.out.no (Ch.new w5 (.cells #[.int .i64 1, .int .i64 (-1)] 3))) (Ow.new2 w5 1 (-1)) rfl (by intro x hx; simp at hx; omega) (fun i _ e => ⟨by have := H5.out.lt; omega, fun e' => by have := H5.out.vlt _ e'; omega⟩))
  go_wp2_with (fail)
  refine HL.out.mono ?_
  rintro r w6 ⟨rfl, v6, h6, k6, -⟩
  rw [kn6] at h6
  have K6 := Lib.hid ((H5.out.no (Ch.new w5 (.cells #[.int .i64 1, .int .i64 (-1)] 3))).over k6 (K5.out.then (Ch.new w5 _)) (Nat.le_of_eq HP.out))
  have H6 := Lib.hid h6
  clear h6 k6 H5 K5 HL
  go_wp2_with (fail)
  refine (end_any H6.out).mono ?_
  rintro r w7 ⟨v7, rfl, o7, k7⟩
  rw [outW_0] at o7
  have O7 := Lib.hid o7
  have K7 := Lib.hid (K6.out.then k7)
  clear o7 k7 H6 K6
  have hcv : (convert 28 28 (.slice (some ⟨w7.heap.size, 0, none⟩) 1 1)).run Try.prog (w7.alloc (.cells #[.int .u8 120] 5)) = .ok (.slice (some ⟨w7.heap.size, 0, none⟩) 1 1) (w7.alloc (.cells #[.int .u8 120] 5 (1, 2))) := Go.Joins.run_convert_bytes_const_at w7 28 5 #[.int .u8 120] 1 1 w7.heap.size rfl Try.underlying28 Try.underlying5
  have HF := Lib.hid (frame_any (kind := 5) (new_const w7 120) rfl (by decide))
  have O8 := Lib.hid (O7.out.no (Ch.new w7 (.cells #[.int .u8 120] 5 (1, 2))))
  have K8 := Lib.hid (K7.out.then (Ch.new w7 (.cells #[.int .u8 120] 5 (1, 2))))
  go_wp2_with (fail)
  refine HF.out.mono ?_
  rintro r w9 ⟨v9, rfl, o9, k9⟩
  rw [kn7, outW_0] at o9
  rw [kn7]
  have hs7 : (convert 28 9 v7).run Try.prog w9 = .ok (.string ⟨#[172, 2, 127, 255, 255, 255, 255, 255, 255, 255, 255, 255, 1, 1, 2, 97, 98, 2, 2, 1]⟩) w9 := conv_rw (O8.out.no k9).rw_
  have hs9 : (convert 28 9 v9).run Try.prog w9 = .ok (.string ⟨#[5, 1, 120]⟩) w9 := conv_rw o9.rw_
  have K9 := Lib.hid (K8.out.then k9)
  clear o9 k9 hcv HF O7 O8 K7 K8
  go_wp2_with (fail)
  refine (read_any (new_bytes w9 [128, 0] 2 rfl (by decide)) (by decide) (by intro x hx; simp at hx; rcases hx with rfl | rfl <;> exact ⟨by decide, by decide⟩)).mono ?_
  rintro r w10 ⟨q1, A1, c1, rfl, g1, r1, k10, -⟩
  have K10 := Lib.hid ((K9.out.then (Ch.new w9 _)).then k10)
  have R1 := Lib.hid r1
  have G1 : Hid (p ≤ q1 ∧ q1 < w10.heap.size) := Lib.hid ⟨by have := K9.out.size; have := HP.out; simp at g1; omega, r1.lt⟩
  clear g1 r1 k10 K9 hs7 hs9
  go_wp2_with (fail)
  refine (read_any (new_bytes w10 [5, 255] 2 rfl (by decide)) (by decide) (by intro x hx; simp at hx; rcases hx with rfl | rfl <;> exact ⟨by decide, by decide⟩)).mono ?_
  rintro r w11 ⟨q2, A2, c2, rfl, g2, r2, k11, s2⟩
  have K11 := Lib.hid ((K10.out.then (Ch.new w10 _)).then k11)
  have R2 := Lib.hid r2
  have R1b := Lib.hid ((R1.out.no (Ch.new w10 _)).no k11)
  have G2 : Hid (p ≤ q1 ∧ q1 < q2 ∧ q2 < w11.heap.size) := Lib.hid ⟨G1.out.1, by have := G1.out; simp at g2; omega, r2.lt⟩
  have S2 : Hid (Rw w11 (fun i => q1 < i) .u8 (.slice A2 2 c2) [5, 255]) := Lib.hid (s2.mono fun i _ h => by have := G1.out; simp at h; omega)
  clear g2 r2 k11 K10 R1 G1 s2
  go_wp2_with (fail)
  refine (read_any (new_bytes w11 [2, 97, 98] 3 rfl (by decide)) (by decide) (by intro x hx; simp at hx; rcases hx with rfl | rfl | rfl <;> exact ⟨by decide, by decide⟩)).mono ?_
  rintro r w12 ⟨q3, A3, c3, rfl, g3, r3, k12, s3⟩
  have K12 := Lib.hid ((K11.out.then (Ch.new w11 _)).then k12)
  have R3 := Lib.hid r3
  have R2b := Lib.hid ((R2.out.no (Ch.new w11 _)).no k12)
  have R1c := Lib.hid ((R1b.out.no (Ch.new w11 _)).no k12)
  have G3 : Hid (p ≤ q1 ∧ q1 < q2 ∧ q2 < q3) := Lib.hid ⟨G2.out.1, G2.out.2.1, by have := G2.out; simp at g3; omega⟩
  have S3 : Hid (Rw w12 (fun i => q2 < i) .u8 (.slice A3 3 c3) [2, 97, 98]) := Lib.hid (s3.mono fun i _ h => by have := G2.out; simp at h; omega)
  have S2b := Lib.hid ((S2.out.ch (Ch.new w11 (.cells #[.int .u8 2, .int .u8 97, .int .u8 98] 5)) fun _ _ _ h => h).ch k12 fun _ _ _ h => h)
  clear g3 r3 k12 K11 R2 R1b G2 s3 S2
  go_wp2_with (fail)
  have U1 := ruint_ok R1c.out
  rw [List.drop_zero, kn8] at U1
  refine U1.mono ?_
  rintro r w13 ⟨k13, rfl, r1⟩
  have R2c := Lib.hid (R2b.out.far S2b.out k13 (fun e => by have := G3.out; omega) fun i _ h e => by omega)
  have R3b := Lib.hid (R3.out.far S3.out k13 (fun e => by have := G3.out; omega) fun i _ h e => by have := G3.out; omega)
  have S3b := Lib.hid (S3.out.ch k13 fun i _ h e => by have := G3.out; omega)
  have K13 := Lib.hid (show Ch No w w13 from K12.out.trans k13 fun i hi e => by have := G3.out; have := HP.out; omega)
  have E1 := Lib.hid (err_ok r1)
  clear k13 r1 R1c K12 U1 R2b R3 S2b S3
  go_wp2_with (fail)
  refine E1.out.mono ?_
  rintro r w14 ⟨rfl, hw⟩
  rw [hw]
  clear hw E1
  go_wp2_with (fail)
  have U2 := ruint_ok R2c.out
  rw [List.drop_zero, kn9] at U2
  refine U2.mono ?_
  rintro r w15 ⟨k15, ⟨x, rfl, rfl⟩, r2⟩
  have R3c := Lib.hid (R3b.out.far S3b.out k15 (fun e => by have := G3.out; omega) fun i _ h e => by omega)
  have S3c := Lib.hid (S3b.out.ch k15 fun i _ h e => by omega)
  have K15 := Lib.hid (show Ch No w w15 from K13.out.trans k15 fun i hi e => by have := G3.out; have := HP.out; omega)
  have R2d := Lib.hid r2
  clear k15 r2 U2 R2c R3b S3b K13
  go_wp2_with (fail)
  have U3 := ruint_ok R2d.out
  rw [show List.drop (0 + 1) [(5 : Int), 255] = [255] from rfl, kn10] at U3
  refine U3.mono ?_
  rintro r w16 ⟨k16, rfl, r2⟩
  have R3d := Lib.hid (R3c.out.far S3c.out k16 (fun e => by have := G3.out; omega) fun i _ h e => by omega)
  have K16 := Lib.hid (show Ch No w w16 from K15.out.trans k16 fun i hi e => by have := G3.out; have := HP.out; omega)
  have R2e := Lib.hid r2
  clear k16 r2 U3 R2d R3c S3c K15
  go_wp2_with (fail)
  refine (err_ok R2e.out).mono ?_
  rintro r w17 ⟨rfl, hw⟩
  rw [hw]
  clear hw
  go_wp2_with (fail)
  refine (at_ok R2e.out).mono ?_
  rintro r w18 ⟨rfl, hw⟩
  rw [hw]
  clear hw
  go_wp2_with (fail)
  have U4 := rbytes_ok (lim := 1) R3d.out
  rw [List.drop_zero, kn11] at U4
  refine U4.mono ?_
  rintro r w19 ⟨k19, rfl, r3⟩
  have K19 := Lib.hid (show Ch No w w19 from K16.out.trans k19 fun i hi e => by have := G3.out; have := HP.out; omega)
  have E3 := Lib.hid (err_ok r3)
  clear k19 r3 U4 R3d K16 R2e
  go_wp2_with (fail)
  refine E3.out.mono ?_
  rintro r w20 ⟨rfl, hw⟩
  rw [hw]
  clear hw E3
  go_wp2_with (fail)
  go_ret
  exact ⟨rfl, K19.out⟩
end Go.Proofs.Ytocdjieaphkbdaa
