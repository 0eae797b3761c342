/- Package random: sources, words and numbers; the reference's. -/
import Derived.Test.YtmidoicbbgdchaaQa
namespace Go.Proofs.Ytmidoicbbgdchaa
open Go.RowKit

/-- Block p is a source with the state s. -/
def Src (w : World) (p : Nat) (s : Int) : Prop := w.heap[p]? = some (.cells #[.int .u64 s, .bool true] 48 (0, 0))
/-- Of the blocks that there were only block p may have changed. -/
structure But (p : Nat) (w w' : World) : Prop where
  os : w'.os = w.os
  tape : w'.tape = w.tape
  output : w'.output = w.output
  size : w.heap.size ≤ w'.heap.size
  block : ∀ i, i ≠ p → i < w.heap.size → w'.heap[i]? = w.heap[i]?
section
variable {w w' : World} {p q : Nat} {s : Int}
theorem Src.lt (h : Src w p s) : p < w.heap.size := by
  rcases Nat.lt_or_ge p w.heap.size with hl | hl
  · exact hl
  · unfold Src at h; rw [Array.getElem?_eq_none hl] at h; cases h
theorem Src.c0 (h : Src w p s) : w.cell? ⟨p, 0, none⟩ = some (.int .u64 s) := by rw [cell_of_row w p 0 _ 48 (0, 0) h]; rfl
theorem Src.c1 (h : Src w p s) : w.cell? ⟨p, 1, none⟩ = some (.bool true) := by rw [cell_of_row w p 1 _ 48 (0, 0) h]; rfl
theorem Src.free (h : Src w p s) (k : Nat) : w.frozen? ⟨p, k, none⟩ = false := by unfold Src at h; simp [World.frozen?, h]
theorem Src.set_ (h : Src w p s) (t : Int) : Src (w.setCell ⟨p, 0, none⟩ (.int .u64 t)) p t := by
  have := heap_setCell_same w p 0 _ 48 (.int .u64 t) h
  exact this
theorem Src.new (w : World) (s : Int) : Src (w.alloc (.cells #[.int .u64 s, .bool true] 48)) w.heap.size s := heap_alloc_new w _
theorem But.refl (p : Nat) (w : World) : But p w w := ⟨rfl, rfl, rfl, Nat.le_refl _, fun _ _ _ => rfl⟩
theorem But.trans {a b c : World} (h : But p a b) (k : But p b c) : But p a c := ⟨k.os.trans h.os, k.tape.trans h.tape, k.output.trans h.output, Nat.le_trans h.size k.size, fun i hi hl => (k.block i hi (Nat.lt_of_lt_of_le hl h.size)).trans (h.block i hi hl)⟩
theorem But.set_ (p o : Nat) (w : World) (v : Value) : But p w (w.setCell ⟨p, o, none⟩ v) := ⟨rfl, rfl, rfl, by simp [World.setCell], fun i hi _ => Below.heap_setCell w _ v i hi⟩
theorem But.drew {a b : World} (h : But p a b) : But p a b.drew := ⟨h.os, h.tape, h.output, h.size, h.block⟩
theorem But.below (h : But p w w') {B : Nat} (hB : B ≤ p) (hw : B ≤ w.heap.size) : Below B w w' := ⟨h.os, h.tape, h.output, h.size, fun i hi => h.block i (by omega) (by omega)⟩
theorem Src.but {t : Int} (h : Src w q t) (hb : But p w w') (hne : q ≠ p) : Src w' q t := (hb.block q hne h.lt).trans h
theorem Src.below (h : Src w p s) (hb : Below w.heap.size w w') : Src w' p s := (hb.block p h.lt).trans h
theorem Below.next {w0 X Y : World} (h : Below w0.heap.size w0 X) (hq : Below X.heap.size X Y) : Below w0.heap.size w0 Y := h.trans ⟨hq.os, hq.tape, hq.output, hq.size, fun k hk => hq.block k (Nat.lt_of_lt_of_le hk h.size)⟩
theorem Below.but {w0 X Y : World} (h : Below w0.heap.size w0 X) (hq : But p X Y) (hp : w0.heap.size ≤ p) : Below w0.heap.size w0 Y := h.trans (hq.below hp h.size)
theorem Below.new (w : World) (o : Obj) : Below w.heap.size w (w.alloc o) := Below.alloc (Below.refl w.heap.size w) (Nat.le_refl _) o
end

theorem new_any (z : Int) (w : World) : Calls Try.prog 9 #[.int .i64 z] w fun e w' => e = .returned (.pointer (some ⟨w.heap.size, 0, none⟩)) ∧ w' = w.alloc (.cells #[.int .u64 (IntKind.u64.wrap z), .bool true] 48) := by
  go_enter Try.func9, Try.ntmps9
  go_wp2
  go_ret
  exact ⟨rfl, rfl⟩
theorem newS_any (z : Int) (w : World) : Calls Try.prog 20 #[.int .u64 z] w fun e w' => e = .returned (.pointer (some ⟨w.heap.size, 0, none⟩)) ∧ w' = w.alloc (.cells #[.int .u64 z, .bool true] 48) := by
  go_enter Try.func20, Try.ntmps20
  go_wp2
  go_ret
  exact ⟨rfl, rfl⟩
theorem is_any {w : World} {p : Nat} {s : Int} (h : Src w p s) : Calls Try.prog 23 #[.pointer (some ⟨p, 0, none⟩)] w fun e w' => e = .returned (.bool true) ∧ w' = w := by
  have c1 := h.c1
  go_enter Try.func23, Try.ntmps23
  go_wp2
  go_ret
  exact ⟨rfl, rfl⟩
theorem word_any {w : World} {p : Nat} {s : Int} (h : Src w p s) : Calls Try.prog 16 #[.pointer (some ⟨p, 0, none⟩)] w fun e w' => e = .returned (.int .u64 (wd (nx s))) ∧ w' = w.setCell ⟨p, 0, none⟩ (.int .u64 (nx s)) := by
  have c0 := h.c0
  have f0 := h.free 0
  have d0 := (h.set_ (nx s)).c0
  have HI := Lib.hid (is_any h)
  clear h
  go_enter Try.func16, Try.ntmps16
  go_wp2_with (fail)
  refine HI.out.mono ?_
  rintro e w1 ⟨rfl, rfl⟩
  go_wp2_with (fail)
  go_ret
  exact ⟨rfl, rfl⟩
theorem refNext_any (s : Int) (w : World) :
    Calls Try.prog 19 #[.int .u64 s] w fun e w' => e = .returned (.tuple #[.int .u64 (nx s), .int .u64 (wd (nx s))]) ∧ w' = w := by
  go_enter Try.func19, Try.ntmps19
  go_wp2_with (fail)
  exact bodyPost_ret (v := .tuple #[.int .u64 (nx s), .int .u64 (wd (nx s))]) (by simp [results, Try.results19, go_sem, nx, wd, mA, mB]) rfl ⟨rfl, rfl⟩
/-- How many steps the source at p has left. -/
def leftAt (w : World) (p : Nat) : Nat := match w.cell? ⟨p, 0, none⟩ with | some (.int _ z) => left z | _ => 0
theorem leftAt_src {w : World} {p : Nat} {s : Int} (h : Src w p s) : leftAt w p = left s := by unfold leftAt; rw [h.c0]
theorem tmod_st {x n : Int} (h : St x) : x.tmod n = x % n := Int.tmod_eq_emod_of_nonneg h.1
theorem numV_b {n s : Int} (h1 : 1 ≤ n) (h2 : n ≤ 4611686018427387904) : 0 ≤ numV n s ∧ numV n s < n := by
  unfold numV
  exact ⟨Int.emod_nonneg _ (by omega), Int.emod_lt_of_pos _ (by omega)⟩
theorem below_any {w : World} {p : Nat} {s : Int} (n : Int) (h : Src w p s) (h1 : 1 ≤ n) (h2 : n ≤ 4611686018427387904) :
    Calls Try.prog 24 #[.pointer (some ⟨p, 0, none⟩), .int .u64 n] w fun e w' => e = .returned (.int .i64 (numV n s)) ∧ Src w' p (numS n s) ∧ But p w w' := by
  have HS := Lib.hid h
  have hr := rst_code h1 h2
  obtain ⟨b0, b1, b2⟩ := rst_b h1 h2
  have hrt : (IntKind.u64.wrap (-n)).tmod n = rst n := by
    rw [Int.tmod_eq_emod_of_nonneg (by rw [IntKind.wrap_u64]; omega)]; exact hr
  have HV := Lib.hid (numV_b (s := s) h1 h2)
  have hsub : IntKind.u64.wrap (18446744073709551615 - rst n) = 18446744073709551615 - rst n := by rw [IntKind.wrap_u64]; omega
  have HB2 := Lib.hid b2
  have hn0 : n ≠ 0 := by omega
  generalize hR : rst n = r at *
  have HF := Lib.hid (show fin r (nx s) = numS n s from by rw [← hR]; rfl)
  clear hr b0 b1 b2 hR h
  go_enter Try.func24, Try.ntmps24
  go_wp2_with (fail)
  refine (word_any HS.out).mono ?_
  rintro e w1 ⟨rfl, rfl⟩
  have HS1 := Lib.hid (HS.out.set_ (nx s))
  have HB1 := Lib.hid (But.set_ p 0 w (.int .u64 (nx s)))
  generalize w.setCell ⟨p, 0, none⟩ (.int .u64 (nx s)) = W1 at *
  go_wp2_with (fail)
  go_loopw [6] (fun v wr => ∃ t : Int, v = .int .u64 (wd t) ∧ Hid (St t) ∧ Hid (fin r t = numS n s) ∧ Hid (Src wr p t) ∧ Hid (But p w wr)) (fun _ wr => leftAt wr p)
  case atStart => exact ⟨nx s, rfl, Lib.hid (nx_st s), HF, HS1, HB1⟩
  case round =>
    obtain ⟨t, rfl, ht, hf, hs, hb⟩ := hrel
    clear HS1 HB1
    have HL := Lib.hid (leftAt_src hs.out)
    by_cases hg : wd t ≤ 18446744073709551615 - r
    · have hgt : decide (18446744073709551615 - r < wd t) = false := by simp; omega
      have he := fin_yes hg
      rw [hf.out] at he
      have HE := Lib.hid he
      have hm := tmod_st (n := n) (wd_st t)
      have hv : wd t % n = numV n s := by unfold numV; rw [he]
      rw [hv] at hm
      have hvb := HV.out
      have hw : IntKind.i64.wrap (numV n s) = numV n s := by rw [IntKind.wrap_i64]; omega
      clear hg he hv
      go_wp2_with (fail)
      go_ret
      exact ⟨rfl, HE.out ▸ hs.out, hb.out⟩
    · have hgt : decide (18446744073709551615 - r < wd t) = true := by simp; omega
      obtain ⟨e1, e2⟩ := fin_no ht.out HB2.out hg
      have HE := Lib.hid (e1.symm.trans hf.out)
      have HL2 := Lib.hid e2
      clear hg e1 e2
      go_wp2_with (fail)
      refine (word_any hs.out).mono ?_
      rintro e w2 ⟨rfl, rfl⟩
      have HS2 := Lib.hid (hs.out.set_ (nx t))
      have HB3 := Lib.hid (hb.out.trans (But.set_ p 0 wr (.int .u64 (nx t))))
      generalize wr.setCell ⟨p, 0, none⟩ (.int .u64 (nx t)) = W2 at *
      go_wp2_with (fail)
      go_roundw
      case rel => exact ⟨nx t, rfl, Lib.hid (nx_st t), HE, HS2, HB3⟩
      case measure =>
        rw [HL.out, leftAt_src HS2.out]
        exact HL2.out
theorem number_ok {w : World} {p : Nat} {s : Int} (n : Int) (h : Src w p s) (h1 : 1 ≤ n) (h2 : n ≤ 4611686018427387904) :
    Calls Try.prog 11 #[.pointer (some ⟨p, 0, none⟩), .int .i64 n] w fun e w' => e = .returned (.tuple #[.int .i64 (numV n s), .int .i64 0]) ∧ Src w' p (numS n s) ∧ But p w w' := by
  have HI := Lib.hid (is_any h)
  have HB := Lib.hid (below_any n h h1 h2)
  have hw : IntKind.u64.wrap n = n := by rw [IntKind.wrap_u64]; omega
  have g1 : decide (n < 1) = false := by simp; omega
  have g2 : decide ((4611686018427387904 : Int) < n) = false := by simp; omega
  clear h1 h2
  go_enter Try.func11, Try.ntmps11
  go_wp2_with (fail)
  refine HI.out.mono ?_
  rintro e w1 ⟨rfl, rfl⟩
  go_wp2_with (fail)
  refine HB.out.mono ?_
  rintro e w2 ⟨rfl, q1, q2⟩
  go_wp2_with (fail)
  exact bodyPost_ret (v := .tuple #[.int .i64 (numV n s), .int .i64 0]) (by simp [results, Try.results11, go_sem]) rfl ⟨rfl, q1, q2⟩
theorem number_no {w : World} {p : Nat} {s : Int} (n : Int) (h : Src w p s) (h1 : n < 1 ∨ 4611686018427387904 < n) :
    Calls Try.prog 11 #[.pointer (some ⟨p, 0, none⟩), .int .i64 n] w fun e w' => e = .returned (.tuple #[.int .i64 0, .int .i64 2]) ∧ w' = w := by
  have HI := Lib.hid (is_any h)
  clear h
  go_enter Try.func11, Try.ntmps11
  go_wp2_with (fail)
  refine HI.out.mono ?_
  rintro e w1 ⟨rfl, rfl⟩
  by_cases g : n < 1
  · have g1 : decide (n < 1) = true := by simp; omega
    clear g h1
    go_wp2_with (fail)
    exact bodyPost_ret (v := .tuple #[.int .i64 0, .int .i64 2]) (by simp [results, Try.results11, go_sem]) rfl ⟨rfl, rfl⟩
  · have g1 : decide (n < 1) = false := by simp; omega
    have g2 : decide ((4611686018427387904 : Int) < n) = true := by simp; omega
    clear g h1
    go_wp2_with (fail)
    exact bodyPost_ret (v := .tuple #[.int .i64 0, .int .i64 2]) (by simp [results, Try.results11, go_sem]) rfl ⟨rfl, rfl⟩
theorem fork_any {w : World} {p : Nat} {s : Int} (n : Int) (h : Src w p s) :
    Calls Try.prog 15 #[.pointer (some ⟨p, 0, none⟩), .int .i64 n] w fun e w' => e = .returned (.tuple #[.pointer (some ⟨w.heap.size, 0, none⟩), .int .i64 0]) ∧
      w' = (w.setCell ⟨p, 0, none⟩ (.int .u64 (nx s))).alloc (.cells #[.int .u64 (bits .xor .u64 (wd (nx s)) (IntKind.u64.wrap n)), .bool true] 48) := by
  have HI := Lib.hid (is_any h)
  have HW := Lib.hid (word_any h)
  have hsz : (w.setCell ⟨p, 0, none⟩ (.int .u64 (nx s))).heap.size = w.heap.size := by simp [World.setCell]
  clear h
  go_enter Try.func15, Try.ntmps15
  go_wp2_with (fail)
  refine HI.out.mono ?_
  rintro e w1 ⟨rfl, rfl⟩
  go_wp2_with (fail)
  refine HW.out.mono ?_
  rintro e w2 ⟨rfl, rfl⟩
  go_wp2_with (fail)
  refine (newS_any _ _).mono ?_
  rintro e w3 ⟨rfl, rfl⟩
  rw [hsz]
  go_wp2_with (fail)
  exact bodyPost_ret (v := .tuple #[.pointer (some ⟨w1.heap.size, 0, none⟩), .int .i64 0]) (by simp [results, Try.results15, go_sem]) rfl ⟨rfl, rfl⟩
theorem refNumber_any (n s : Int) (w : World) (hs : St s) (h1 : 1 ≤ n) (h2 : n ≤ 4611686018427387904) :
    Calls Try.prog 12 #[.int .u64 s, .int .i64 n] w fun e w' => e = .returned (.tuple #[.int .u64 (numS n s), .int .i64 (numV n s)]) ∧ ∃ k, w' = w.drewN k := by
  have hw : IntKind.u64.wrap n = n := by rw [IntKind.wrap_u64]; omega
  obtain ⟨b0, b1, b2⟩ := rst_b h1 h2
  have hm1 : (18446744073709551615 : Int).tmod n = 18446744073709551615 % n := Int.tmod_eq_emod_of_nonneg (by omega)
  have hm0 := Int.emod_nonneg 18446744073709551615 (show n ≠ 0 by omega)
  have hm2 := Int.emod_lt_of_pos 18446744073709551615 (show 0 < n by omega)
  have hm3 : IntKind.u64.wrap (18446744073709551615 % n + 1) = 18446744073709551615 % n + 1 := by rw [IntKind.wrap_u64]; omega
  have hm4 : (18446744073709551615 % n + 1).tmod n = rst n := by rw [Int.tmod_eq_emod_of_nonneg (by omega), rst_ref]
  have HV := Lib.hid (numV_b (s := s) h1 h2)
  have hsub : IntKind.u64.wrap (18446744073709551615 - rst n) = 18446744073709551615 - rst n := by rw [IntKind.wrap_u64]; omega
  have HB2 := Lib.hid b2
  have hn0 : n ≠ 0 := by omega
  generalize hR : rst n = r at *
  generalize hM : (18446744073709551615 : Int) % n = mm at *
  have HF := Lib.hid (show fin r (nx s) = numS n s from by rw [← hR]; rfl)
  have HST := Lib.hid hs
  clear b0 b1 b2 hR hs hm0 hm2 hM
  go_enter Try.func12, Try.ntmps12
  go_wp2_with (fail)
  go_loopw [0, 4, 5, 8, 9] (fun s0 _ _ _ _ wr => ∃ t : Int, s0 = .int .u64 t ∧ Hid (St t) ∧ Hid (fin r (nx t) = numS n s) ∧ wr = w) (fun s0 _ _ _ _ _ => match s0 with | .int _ z => left (nx z) | _ => 0)
  case atStart => exact ⟨s, rfl, HST, HF, rfl⟩
  case round =>
    obtain ⟨t, rfl, ht, hf, rfl⟩ := hrel
    go_wp2_with (fail)
    refine (refNext_any t _).mono ?_
    rintro e w1 ⟨rfl, rfl⟩
    by_cases hg : wd (nx t) ≤ 18446744073709551615 - r
    · have hgt : decide (wd (nx t) ≤ 18446744073709551615 - r) = true := by simp; omega
      have he := fin_yes hg
      rw [hf.out] at he
      have HE := Lib.hid he
      have hm := tmod_st (n := n) (wd_st (nx t))
      have hv : wd (nx t) % n = numV n s := by unfold numV; rw [he]
      rw [hv] at hm
      have hvb := HV.out
      have hwv : IntKind.i64.wrap (numV n s) = numV n s := by rw [IntKind.wrap_i64]; omega
      clear hg he hv
      go_wp2_with (fail)
      go_region
      all_goals
        go_wp2_with (fail)
        exact bodyPost_ret (v := .tuple #[.int .u64 (nx t), .int .i64 (numV n s)]) (by simp [results, Try.results12, go_sem]) rfl ⟨by rw [HE.out], 1, rfl⟩
    · have hgt : decide (wd (nx t) ≤ 18446744073709551615 - r) = false := by simp; omega
      obtain ⟨e1, e2⟩ := fin_no (nx_st t) HB2.out hg
      have HE := Lib.hid (e1.symm.trans hf.out)
      have HL2 := Lib.hid e2
      have HN := Lib.hid (nx_st t)
      clear hg e1 e2
      go_wp2_with (fail)
      go_roundw
      case rel => exact ⟨nx t, rfl, HN, HE, trivial⟩
      case measure => exact HL2.out
end Go.Proofs.Ytmidoicbbgdchaa
