/- strconv.FormatUint at base 10. Decimal numerals, taken apart. No walk. magnitude.decimal. number.Digits10, number.Text. number.isDecimal. number.fromDecimal. number.fromDecimal, the walk. number.Parse. number.Neg. -/
import Derived.Test.YtnkklmbmodkogaaDoorSh
import Derived.Test.YtnkklmbmodkogaaDoorG6
import Derived.Lib.Walk
import Derived.Lib.ItoaMem
import Derived.Lib.OwnBridge
import Derived.BigCall
import Derived.BigGuard
import Derived.Test.YtnkklmbmodkogaaDoorG4
import Derived.Test.YtnkklmbmodkogaaDoorG5
import Derived.Deep.RegionHeld3
/-! FU -/
namespace Go.Proofs.YtnkklmbmodkogaaDoor
open Go.RowKit Go.Sort Go.Lib

/-- The table of powers of ten that the library keeps. -/
def Tens (w : World) : Prop := Lib.TabIs Tryd.prog w "internal/strconv.uint64pow10" .u64 Lib.pow10Tab
set_option maxHeartbeats 6400000 in
set_option maxRecDepth 100000 in
theorem formatUint_in (u : Nat) (w : World) (hu64 : u < 18446744073709551616) (htab : Tens w) :
    Calls Tryd.prog 83 #[.int .u64 u, .int .i64 10] w fun e w' => e = .returned (.string ⟨(Lib.decDigits u).toArray⟩) ∧ Below w.heap.size w w' := by
  by_cases hs : u < 100
  · have hw : IntKind.i64.wrap (u : Int) = (u : Int) := by rw [IntKind.wrap_i64]; omega
    have hd : decide ((u : Int) < 100) = true := by simp; omega
    have hi : (u : Int) < 100 := by omega
    go_enter Tryd.func83, Tryd.ntmps83
    go_wp2_with (go_at_call 101; refine (Tryd.internal_strconv_small u hs _).mono ?_; rintro e w' ⟨rfl, rfl⟩)
    go_ret
    exact ⟨rfl, Below.refl _ _⟩
  · have hu1 : 1 ≤ u := by omega
    have hd : decide ((u : Int) < 100) = false := by simp; omega
    have hnd20 : Lib.nDigits u ≤ 20 := by have := Lib.numDigits_eq u hu1 hu64; split at this <;> omega
    have hal : Tryd.prog.arrayLen 120 = 24 := by simp [Program.arrayLen, Tryd.underlying120]
    have hsl1 : ∀ W, (Instr.sliceAt 120 (.pointer (some ⟨w.heap.size, 0, none⟩)) none (some (.int .i64 (Lib.nDigits u : Int))) none).run Tryd.prog W = .ok (.slice (some ⟨w.heap.size, 0, none⟩) (Lib.nDigits u) 24) W := fun W => by
      rw [run_sliceAt_array_h W 120 ⟨w.heap.size, 0, none⟩ (by simp [Program.arrayLen, Program.elem, Tryd.underlying120]) .i64 (Lib.nDigits u : Int) (by omega) (by rw [hal]; omega)]
      go_simp
      try omega
    have hH0 : Holds (fun (b : UInt8) => Value.int .u8 (b.toNat : Int)) (w.alloc (.cells Lib.zeros24 120)) w.heap.size 0 (Array.replicate (Lib.nDigits u) (0 : UInt8)) := fun j hj => by
      have hj' : j < Lib.nDigits u := by simpa using hj
      refine ⟨?_, World.frozen?_alloc_new _ _ _ _⟩
      rw [World.cell?_alloc_new, Lib.zeros24_at _ (by omega), getElem!_pos _ j hj]
      simp
    have hfmt := Tryd.internal_strconv_formatBase10 w.heap.size 0 24 u (Array.replicate (Lib.nDigits u) 0) (w.alloc (.cells Lib.zeros24 120)) hH0 (by rw [Array.size_replicate]; exact Lib.lt_pow_nDigits u) hu64 (by rw [Array.size_replicate]; omega)
    rw [Array.size_replicate] at hfmt
    have HH0 := Lib.hid hH0
    have HU := Lib.hid hu64
    clear hH0 hal hu64
    go_enter Tryd.func83, Tryd.ntmps83
    go_wp2_with (first | (go_at_call 102; refine (Tryd.internal_strconv_numDigits u hu1 HU.out _ (Lib.tabIs_alloc htab _)).mono ?_; rintro e w' ⟨rfl, rfl⟩))
    refine hfmt.mono ?_
    rintro e w' ⟨rfl, k, v', dk, rfl, hF⟩
    have hcv : (convert 22 9 (.slice (some ⟨w.heap.size, 0, none⟩) (Lib.nDigits u) 24)).run Tryd.prog ((putRow (fun (b : UInt8) => Value.int .u8 (b.toNat : Int)) (w.alloc (.cells Lib.zeros24 120)) w.heap.size 0 dk).drewN k) = .ok (.string ⟨(Lib.decDigits u).toArray⟩) ((putRow (fun (b : UInt8) => Value.int .u8 (b.toNat : Int)) (w.alloc (.cells Lib.zeros24 120)) w.heap.size 0 dk).drewN k) := by
      have h := run_convert_bytes_back (P := Tryd.prog) ((putRow (fun (b : UInt8) => Value.int .u8 (b.toNat : Int)) (w.alloc (.cells Lib.zeros24 120)) w.heap.size 0 dk).drewN k) 22 9 5 ⟨w.heap.size, 0, none⟩ 24 (Lib.decDigits u) Tryd.underlying22 Tryd.underlying5 Tryd.underlying9 (fun j hj => by
        rw [Lib.row_is_numeral hF j hj, Lib.add_plain, World.cell?_drewN]
        exact cell?_putRow (fun (b : UInt8) => Value.int .u8 (b.toNat : Int)) _ w.heap.size 0 _ dk HH0.out (by rw [hF.size, Array.size_replicate]) j (by rw [hF.size]; rw [Lib.decDigits_length] at hj; exact hj))
      rw [Lib.decDigits_length] at h
      exact h
    go_wp2
    go_ret
    refine ⟨rfl, below_drewN ?_ _⟩
    exact Lib.below_putRow (q := 0) (below_alloc w (.cells Lib.zeros24 120)) (Nat.le_refl _)
/-- strconv.FormatUint at base 10. -/
theorem formatUint_any (u : Nat) (w : World) (hu64 : u < 18446744073709551616) (htab : Tens w) :
    Calls Tryd.prog 70 #[.int .u64 u, .int .i64 10] w fun e w' => e = .returned (.string ⟨(Lib.decDigits u).toArray⟩) ∧ Below w.heap.size w w' := by
  have HH := Lib.hid (formatUint_in u w hu64 htab)
  clear hu64
  go_enter Tryd.func70, Tryd.ntmps70
  go_wp2_with (go_at_call 83; refine HH.out.mono ?_; rintro e w' ⟨rfl, hb⟩)
  go_ret
  exact ⟨rfl, hb⟩
end Go.Proofs.YtnkklmbmodkogaaDoor

/-! DecMath -/
namespace Go.Proofs.YtnkklmbmodkogaaDoor
open Go.RowKit Go.Lib

/-- The last k digits. -/
def dlow : Nat → Nat → List UInt8
  | 0, _ => []
  | k + 1, r => dlow k (r / 10) ++ [UInt8.ofNat (48 + r % 10)]
theorem rep_snoc (n : Nat) : Lib.repeatL [48] (n + 1) = Lib.repeatL [48] n ++ [48] := by
  induction n with
  | zero => rfl
  | succ n ih =>
    show [48] ++ Lib.repeatL [48] (n + 1) = ([48] ++ Lib.repeatL [48] n) ++ [48]
    rw [ih, List.append_assoc]
theorem dlow_zero (k : Nat) : dlow k 0 = Lib.repeatL [48] k := by
  induction k with
  | zero => rfl
  | succ k ih => rw [dlow, Nat.zero_div, ih, rep_snoc]; rfl
theorem dlow_pad (k : Nat) : ∀ r, r < 10 ^ (k + 1) → dlow (k + 1) r = Lib.repeatL [48] (k + 1 - Lib.nDigits r) ++ Lib.decDigits r ∧ Lib.nDigits r ≤ k + 1 := by
  induction k with
  | zero =>
    intro r hr
    have h : r < 10 := by simpa using hr
    rw [Lib.nDigits_small h, Lib.decDigits_one h]
    refine ⟨?_, Nat.le_refl _⟩
    simp [dlow, Lib.repeatL, Nat.mod_eq_of_lt h]
  | succ k ih =>
    intro r hr
    by_cases h : r < 10
    · rw [Lib.nDigits_small h, Lib.decDigits_one h]
      refine ⟨?_, by omega⟩
      rw [dlow, Nat.div_eq_of_lt h, dlow_zero, Nat.mod_eq_of_lt h, show k + 1 + 1 - 1 = k + 1 from rfl]
    · have h1 : r / 10 < 10 ^ (k + 1) := by rw [Nat.pow_succ] at hr; omega
      obtain ⟨e1, e2⟩ := ih (r / 10) h1
      rw [Lib.nDigits_big h, Lib.decDigits, dif_neg h, dlow, e1, show k + 1 + 1 - (Lib.nDigits (r / 10) + 1) = k + 1 - Lib.nDigits (r / 10) from by omega, List.append_assoc]
      exact ⟨rfl, by omega⟩
theorem dec_split (k : Nat) : ∀ m, 10 ^ k ≤ m → Lib.decDigits m = Lib.decDigits (m / 10 ^ k) ++ dlow k (m % 10 ^ k) := by
  induction k with
  | zero => intro m _; simp [dlow]
  | succ k ih =>
    intro m hm
    rw [Nat.pow_succ] at hm
    have hp : 0 < 10 ^ k := Nat.pow_pos (by omega)
    have h10 : ¬ m < 10 := by omega
    have e := ih (m / 10) (by omega)
    rw [Lib.decDigits, dif_neg h10, e, dlow, List.append_assoc]
    have e1 : m / 10 / 10 ^ k = m / 10 ^ (k + 1) := by rw [Nat.div_div_eq_div_mul, Nat.pow_succ, Nat.mul_comm]
    have e2 : m % 10 ^ (k + 1) / 10 = m / 10 % 10 ^ k := by rw [Nat.pow_succ, Nat.mul_comm, Nat.mod_mul_right_div_self]
    have e3 : m % 10 ^ (k + 1) % 10 = m % 10 := by rw [Nat.pow_succ, Nat.mul_comm]; exact Nat.mod_mul_right_mod m 10 (10 ^ k)
    rw [e1, e2, e3]
/-- A chunk of 19 digits is cut off. -/
theorem dec_chunk {m : Nat} (h : m / 10000000000000000000 ≠ 0) : Lib.decDigits m = Lib.decDigits (m / 10000000000000000000) ++ (Lib.repeatL [48] (19 - Lib.nDigits (m % 10000000000000000000)) ++ Lib.decDigits (m % 10000000000000000000)) := by
  have hm : 10 ^ 19 ≤ m := by
    rcases Nat.lt_or_ge m (10 ^ 19) with hl | hl
    · exact absurd (Nat.div_eq_of_lt hl) h
    · exact hl
  have e := dec_split 19 m hm
  have p := dlow_pad 18 (m % 10 ^ 19) (Nat.mod_lt _ (by decide))
  rw [p.1] at e
  exact e
theorem chunk_len (m : Nat) : Lib.nDigits (m % 10000000000000000000) ≤ 19 := (dlow_pad 18 (m % 10 ^ 19) (Nat.mod_lt _ (by decide))).2
end Go.Proofs.YtnkklmbmodkogaaDoor

/-! DE1 -/
namespace Go.Proofs.YtnkklmbmodkogaaDoor
open Go.RowKit

theorem Tens.below {w w' : World} (h : Tens w) (hb : Below w.heap.size w w') : Tens w' := by
  unfold Tens Lib.TabIs World.var? at *
  cases hg : Tryd.prog.globalNamed "internal/strconv.uint64pow10" with
  | none => simp [hg] at h
  | some g =>
    simp only [hg, Option.bind_some] at h ⊢
    have hl : g < w.heap.size := by
      rcases Nat.lt_or_ge g w.heap.size with hl | hl
      · exact hl
      · rw [Array.getElem?_eq_none hl] at h; simp at h
    rw [hb.block g hl]
    exact h
/-- The length of a string's value. -/
def strLen : Value → Nat
  | .string s => s.size
  | _ => 0
theorem dec_len {u m : Nat} {tx : List UInt8} (h : Lib.decDigits u = Lib.decDigits m ++ tx) : tx.length + Lib.nDigits m = Lib.nDigits u := by
  have := congrArg List.length h
  rw [Lib.decDigits_length, List.length_append, Lib.decDigits_length] at this
  omega
theorem str_cat (a b : List UInt8) : (⟨a.toArray⟩ : ByteArray) ++ ⟨b.toArray⟩ = ⟨(a ++ b).toArray⟩ := by
  apply ByteArray.ext
  simp
theorem dec_155 {u : Nat} (h : u < 18446744073709551616 ^ 8) : Lib.nDigits u ≤ 155 := (dlow_pad 154 u (Nat.lt_trans h (by decide))).2
set_option maxRecDepth 100000 in
set_option maxHeartbeats 2000000 in
theorem decimal_mag (u : Nat) (w : World) (hu : u < 18446744073709551616 ^ 8) (ht : Tens w) :
    Calls Tryd.prog 45 #[.agg (mag (lm u))] w fun e w' => e = .returned (.string ⟨(Lib.decDigits u).toArray⟩) ∧ Below w.heap.size w w' := by
  obtain ⟨hv0, hbW, hsz⟩ := boxes1 w 56 (mag (lm u))
  have HU := Lib.hid hu
  have HT := Lib.hid ht
  have hx : Box _ _ _ (lm u) := hv0
  clear hu hv0 ht
  go_enter Tryd.func45, Tryd.ntmps45
  go_wp2_with (fail)
  generalize w.alloc (.cells (mag (lm u)) 56) = W at *
  have HB := Lib.hid hbW
  have hst := Lib.hid (show Lib.decDigits u = Lib.decDigits u ++ [] by simp)
  go_loopw [3, 4, 5] (fun t _ _ wr => ∃ (m : Nat) (tx : List UInt8), t = .string ⟨tx.toArray⟩ ∧ Hid (m < 18446744073709551616 ^ 8) ∧ Hid (Lib.decDigits u = Lib.decDigits m ++ tx) ∧ Box wr w.heap.size 56 (lm m) ∧ Hid (Below w.heap.size w wr)) (fun t _ _ _ => Lib.nDigits u - strLen t)
  case atStart => exact ⟨u, [], rfl, HU, hst, hx, HB⟩
  case round =>
    obtain ⟨m, tx, rfl, hm, hd, hb, hbl⟩ := hrel
    clear hx hst HB hbW
    have hlt := hb.lt
    have HH := Lib.hid hb
    go_wp2_with (first | (refine ldm rfl _ rfl _ rfl _ hb (lm_len _) ?_))
    refine (divLimb_mag m 10000000000000000000 wr hm.out (by omega) (by omega)).mono ?_
    rintro e w1 ⟨rfl, q1⟩
    have hql : m / 10000000000000000000 < 18446744073709551616 ^ 8 := Nat.lt_of_le_of_lt (Nat.div_le_self _ _) hm.out
    have hrl : m % 10000000000000000000 < 18446744073709551616 := Nat.lt_trans (Nat.mod_lt _ (by omega)) (by omega)
    have hr19 := chunk_len m
    have hch : m / 10000000000000000000 ≠ 0 → _ := dec_chunk (m := m)
    have hz0 : m / 10000000000000000000 = 0 → m % 10000000000000000000 = m := fun h => by have := Nat.div_add_mod m 10000000000000000000; omega
    generalize m / 10000000000000000000 = q at *
    generalize m % 10000000000000000000 = r at *
    have HQ := Lib.hid hql
    have HR := Lib.hid hrl
    have HCH := Lib.hid hch
    have HZ0 := Lib.hid hz0
    clear hql hrl hch hz0
    have hb1 := Lib.hid (hb.below q1 hlt)
    have Q2 := Lib.hid (below_setRow (g := w.heap.size) (cs := mag (lm q)) (hbl.out.trans (q1.mono (Nat.le_of_lt hlt))) (Nat.le_refl _))
    have HBq := Lib.hid (hb1.out.setRow (ys := lm q))
    clear hb HH q1
    go_wp2_with (first | (refine stm rfl _ _ rfl _ rfl _ _ rfl hb1.out (lm_len _) rfl ?_))
    have hlt2 := HBq.out.lt
    have HT2 := Lib.hid (HT.out.below Q2.out)
    generalize w1.setRow w.heap.size (mag (lm q)) = W2 at *
    refine (formatUint_any r W2 HR.out HT2.out).mono ?_
    rintro e w3 ⟨rfl, q3⟩
    have Q3 := Lib.hid (Q2.out.trans (q3.mono (Nat.le_of_lt hlt2)))
    have HB3 := Lib.hid (HBq.out.below q3 hlt2)
    have hlt3 := HB3.out.lt
    clear q3 hb1 HBq
    have HI := isZero_any (lm q) w3 (lm_len q)
    rw [lm_isZero q HQ.out] at HI
    go_wp2_with (first | (refine ldm rfl _ rfl _ rfl _ HB3.out (lm_len _) ?_))
    refine HI.mono ?_
    rintro e w4 ⟨rfl, q4⟩
    have Q4 := Lib.hid (Q3.out.trans (q4.mono (Nat.le_of_lt hlt3)))
    have HB4 := Lib.hid (HB3.out.below q4 hlt3)
    have hlt4 := HB4.out.lt
    clear HI q4 HB3
    have hl := dec_len hd.out
    have h155 := dec_155 HU.out
    have hdr := Lib.decDigits_length r
    have hp1 := Lib.nDigits_pos m
    by_cases h0 : q = 0
    · have hd0 : decide (q = 0) = true := by simp [h0]
      have hcat : ¬ 9223372036854775807 < (Lib.decDigits r).length + tx.length := by omega
      have hres : Lib.decDigits r ++ tx = Lib.decDigits u := by rw [HZ0.out h0]; exact hd.out.symm
      have HRES := Lib.hid hres
      clear hl h155 hdr hp1 hr19 hres
      go_wp2_with (fail)
      refine bodyPost_ret (v := .string ⟨(Lib.decDigits u).toArray⟩) ?_ rfl ⟨rfl, Q4.out⟩
      simp [results, Tryd.results45, go_sem, str_cat, HRES.out]
    · have hd0 : decide (q = 0) = false := by simp [h0]
      have hsub : IntKind.i64.wrap (19 - ((Lib.decDigits r).length : Int)) = ((19 - Lib.nDigits r : Nat) : Int) := by rw [IntKind.wrap_i64]; omega
      generalize hcc : 19 - Lib.nDigits r = cc at *
      have HCC := Lib.hid hcc
      have HRL := Lib.hid (show (Lib.repeatL [48] cc).length = cc by rw [Lib.repeatL_length]; simp)
      have HL := Lib.hid hl
      have H155 := Lib.hid h155
      have HDR := Lib.hid hdr
      have HP1 := Lib.hid hp1
      have HR19 := Lib.hid hr19
      clear hl h155 hdr hp1 hr19 hcc
      go_wp2_with (fail)
      refine (Tryd.strings_Repeat ⟨#[48]⟩ cc w4 (by have := HCC.out; omega) (by show 1 * cc ≤ _; have := HCC.out; omega)).mono ?_
      rintro e w5 ⟨rfl, q5⟩
      rw [show (⟨#[48]⟩ : ByteArray).data.toList = [48] from rfl]
      have hk1 : ¬ 9223372036854775807 < (Lib.repeatL [48] cc).length + (Lib.decDigits r).length := by have h1 := HRL.out; have h2 := HDR.out; have h3 := HR19.out; have h4 := HCC.out; omega
      have hk2 : ¬ 9223372036854775807 < (Lib.repeatL [48] cc).length + (Lib.decDigits r).length + tx.length := by have h1 := HRL.out; have h2 := HDR.out; have h3 := HR19.out; have h4 := HCC.out; have h5 := HL.out; have h6 := H155.out; omega
      have Q5 := Lib.hid (Q4.out.trans (q5.mono (Nat.le_of_lt hlt4)))
      have HB5 := Lib.hid (HB4.out.below q5 hlt4)
      have HE := Lib.hid (show Lib.decDigits u = Lib.decDigits q ++ (Lib.repeatL [48] cc ++ Lib.decDigits r ++ tx) by
        have h1 := HCH.out h0
        rw [hd.out, h1, List.append_assoc, List.append_assoc])
      have HM : Hid (Lib.nDigits u - (Lib.repeatL [48] cc ++ Lib.decDigits r ++ tx).length < Lib.nDigits u - tx.length) := Lib.hid (by
        have h1 := HDR.out; have h2 := HL.out; have h3 := HP1.out; have h4 := Lib.nDigits_pos r
        rw [List.length_append, List.length_append]; omega)
      clear q5 hsub hd0
      go_wp2_with (fail)
      rw [str_cat, str_cat]
      refine ⟨⟨q, Lib.repeatL [48] cc ++ Lib.decDigits r ++ tx, rfl, HQ, HE, HB5.out, Q5⟩, ?_⟩
      have hm1 := HM.out
      simpa [strLen, ByteArray.size] using hm1
end Go.Proofs.YtnkklmbmodkogaaDoor

/-! DE2 -/
namespace Go.Proofs.YtnkklmbmodkogaaDoor
open Go.RowKit

set_option maxRecDepth 100000 in
set_option maxHeartbeats 2000000 in
theorem digits10_int (x : Value) (z : Int) (w : World) (hx : IntIs w w.heap.size x z) (hz : blen z.natAbs ≤ 64) (ht : Tens w) :
    Calls Tryd.prog 19 #[x] w fun e w' => e = .returned (.int .i64 (Lib.nDigits z.natAbs)) ∧ Below w.heap.size w w' := by
  obtain ⟨f, A, m, c, rfl, hx, hf, hn⟩ := hx.look
  obtain ⟨hv0, hbW, hsz⟩ := boxes1 w 24 #[.bool f, .slice A m c]
  have HX := Lib.hid (hx.step hbW)
  have HZ := Lib.hid hz
  have HT := Lib.hid (ht.below hbW)
  clear hx hz hn hf ht
  go_enter Tryd.func19, Tryd.ntmps19
  go_wp2_with (fail)
  generalize w.alloc (.cells #[.bool f, .slice A m c] 24) = W at *
  have hlt0 : w.heap.size < W.heap.size := by omega
  refine (valid_int _ z W HX.out HZ.out).mono ?_
  rintro e w1 ⟨rfl, q1⟩
  have HX1 := Lib.hid (HX.out.step q1)
  have HT1 := Lib.hid (HT.out.below q1)
  have v0 := hv0.below q1 hlt0
  have s0 := v0.cell 0; have s1 := v0.cell 1
  simp only [List.getElem?_toArray, List.getElem?_cons_succ, List.getElem?_cons_zero] at s0 s1
  go_wp2_with (fail)
  refine (magOf_int z w1 HX1.out HZ.out).mono ?_
  rintro e w2 ⟨rfl, q2⟩
  go_wp2_with (fail)
  refine (decimal_mag z.natAbs w2 (abs_lt HZ.out) (HT1.out.below q2)).mono ?_
  rintro e w3 ⟨rfl, q3⟩
  have HB := Lib.hid (hbW.trans ((q1.trans ((q2.trans (q3.mono q2.size)).mono q1.size)).mono (by omega)))
  have hdl := Lib.decDigits_length z.natAbs
  clear q1 q2 q3 hbW
  go_wp2_with (fail)
  go_ret
  exact ⟨rfl, HB.out⟩

set_option maxRecDepth 100000 in
set_option maxHeartbeats 2000000 in
theorem text_int (x : Value) (z : Int) (w : World) (hx : IntIs w w.heap.size x z) (hz : blen z.natAbs ≤ 64) (ht : Tens w) :
    Calls Tryd.prog 20 #[x] w fun e w' => e = .returned (.string ⟨(Lib.itoa z).toArray⟩) ∧ Below w.heap.size w w' := by
  obtain ⟨f, A, m, c, rfl, hx, hf, hn⟩ := hx.look
  obtain ⟨hv0, hbW, hsz⟩ := boxes1 w 24 #[.bool f, .slice A m c]
  have HX := Lib.hid (hx.step hbW)
  have HZ := Lib.hid hz
  have HF := Lib.hid hf
  have HT := Lib.hid (ht.below hbW)
  clear hx hz hn hf ht
  go_enter Tryd.func20, Tryd.ntmps20
  go_wp2_with (fail)
  generalize w.alloc (.cells #[.bool f, .slice A m c] 24) = W at *
  have hlt0 : w.heap.size < W.heap.size := by omega
  refine (valid_int _ z W HX.out HZ.out).mono ?_
  rintro e w1 ⟨rfl, q1⟩
  have HX1 := Lib.hid (HX.out.step q1)
  have HT1 := Lib.hid (HT.out.below q1)
  have v0 := hv0.below q1 hlt0
  have s0 := v0.cell 0; have s1 := v0.cell 1
  simp only [List.getElem?_toArray, List.getElem?_cons_succ, List.getElem?_cons_zero] at s0 s1
  go_wp2_with (fail)
  refine (magOf_int z w1 HX1.out HZ.out).mono ?_
  rintro e w2 ⟨rfl, q2⟩
  go_wp2_with (fail)
  refine (decimal_mag z.natAbs w2 (abs_lt HZ.out) (HT1.out.below q2)).mono ?_
  rintro e w3 ⟨rfl, q3⟩
  have q13 := q1.trans ((q2.trans (q3.mono q2.size)).mono q1.size)
  have HB := Lib.hid (hbW.trans (q13.mono (by omega)))
  have u0 := (hv0.below q13 hlt0).cell 0
  simp only [List.getElem?_toArray, List.getElem?_cons_zero] at u0
  have hlen : ¬ 9223372036854775807 < (Lib.decDigits z.natAbs).length + 1 := by have := dec_155 (abs_lt HZ.out); rw [Lib.decDigits_length]; omega
  have hlen2 : ¬ 9223372036854775807 < 1 + (Lib.decDigits z.natAbs).length := by omega
  clear q1 q2 q3 q13 hbW s0 s1 v0 hv0
  cases f
  · have HI : Hid (Lib.itoa z = Lib.decDigits z.natAbs) := Lib.hid (by have := of_decide_eq_false HF.out.symm; unfold Lib.itoa; rw [if_neg this]; congr 1; omega)
    go_wp2_with (fail)
    go_ret
    exact ⟨by rw [HI.out]; rfl, HB.out⟩
  · have HI : Hid (Lib.itoa z = 45 :: Lib.decDigits z.natAbs) := Lib.hid (by have := of_decide_eq_true HF.out.symm; unfold Lib.itoa; rw [if_pos this])
    have hs : (⟨#[45]⟩ : ByteArray) ++ ⟨(Lib.decDigits z.natAbs).toArray⟩ = ⟨(45 :: Lib.decDigits z.natAbs).toArray⟩ := str_cat [45] _
    have HS := Lib.hid hs
    clear hs
    go_wp2_with (fail)
    refine bodyPost_ret (v := .string ⟨(Lib.itoa z).toArray⟩) ?_ rfl ⟨rfl, HB.out⟩
    rw [HI.out, ← HS.out]
    simp [results, Tryd.results20, go_sem]
end Go.Proofs.YtnkklmbmodkogaaDoor

/-! Pa1 -/
namespace Go.Proofs.YtnkklmbmodkogaaDoor
open Go.RowKit

def digB (b : UInt8) : Bool := decide (48 ≤ b.toNat) && decide (b.toNat ≤ 57)
/-- A decimal numeral, with no sign. -/
def decB : List UInt8 → Bool
  | [] => false
  | c :: t => !(decide (c.toNat = 48) && !t.isEmpty) && (c :: t).all digB
theorem decB_nil : decB [] = false := rfl
theorem decB_zero {c : UInt8} {t : List UInt8} (h : c.toNat = 48) (ht : t ≠ []) : decB (c :: t) = false := by
  cases t with
  | nil => exact absurd rfl ht
  | cons d t => simp [decB, h]
theorem decB_loop {c : UInt8} {t : List UInt8} (h : ¬ (c.toNat = 48 ∧ t ≠ [])) : decB (c :: t) = (c :: t).all digB := by
  cases t with
  | nil => simp [decB]
  | cons d t =>
    have : ¬ c.toNat = 48 := fun e => h ⟨e, by simp⟩
    simp [decB, this]
/-- The first k bytes are digits. -/
def firstD (s : ByteArray) (k : Nat) : Prop := ∀ j (hj : j < s.size), j < k → digB s[j] = true
theorem all_of {l : List UInt8} (h : firstD ⟨l.toArray⟩ l.length) : l.all digB = true := by
  rw [List.all_eq_true]
  intro x hx
  obtain ⟨i, hi, rfl⟩ := List.mem_iff_getElem.1 hx
  exact h i hi hi
theorem all_no {l : List UInt8} {k : Nat} (hk : k < (⟨l.toArray⟩ : ByteArray).size) (h : digB (⟨l.toArray⟩ : ByteArray)[k] = false) : l.all digB = false := by
  have hk' : k < l.length := hk
  rw [List.all_eq_false]
  refine ⟨l[k], List.getElem_mem hk', ?_⟩
  have e : (⟨l.toArray⟩ : ByteArray)[k] = l[k] := rfl
  rw [← e, h]; simp

set_option maxRecDepth 100000 in
set_option maxHeartbeats 1000000 in
theorem isDec_any (l : List UInt8) (w : World) (hl : l.length ≤ 1000000000000) :
    Calls Tryd.prog 65 #[.string ⟨l.toArray⟩] w fun e w' => e = .returned (.bool (decB l)) ∧ w = w' := by
  cases l with
  | nil =>
    go_enter Tryd.func65, Tryd.ntmps65
    go_wp2
    go_ret
    exact ⟨rfl, rfl⟩
  | cons c t =>
    by_cases h : c.toNat = 48 ∧ t ≠ []
    · have hr := Lib.hid (decB_zero h.1 h.2)
      have h1 : (c.toNat : Int) = 48 := by omega
      have h2 : 0 < t.length := List.length_pos_iff.2 h.2
      clear h
      go_enter Tryd.func65, Tryd.ntmps65
      go_wp2
      go_ret
      exact ⟨by rw [hr.out]; rfl, rfl⟩
    · have hr := Lib.hid (decB_loop h)
      by_cases h48 : c.toNat = 48
      · have ht : t.length = 0 := by
          rcases t with _ | ⟨d, t⟩
          · rfl
          · exact absurd ⟨h48, by simp⟩ h
        have h2 : decide ((1 : Int) < (t.length : Int) + 1) = false := by simp; omega
        have h1 : (((⟨(c :: t).toArray⟩ : ByteArray)[0]'(Nat.zero_lt_succ _)).toNat : Int) = 48 := by show (c.toNat : Int) = 48; omega
        have h3 : ((((⟨(c :: t).toArray⟩ : ByteArray)[0]'(Nat.zero_lt_succ _)).toNat : Int) == 48) = true := by simp [h1]
        clear h h48 ht
        go_enter Tryd.func65, Tryd.ntmps65
        go_wp2_with (fail)
        go_loopw [3, 18] (fun _ a wr => ∃ k : Nat, k ≤ (c :: t).length ∧ a = .int .i64 k ∧ Hid (firstD ⟨(c :: t).toArray⟩ k) ∧ w = wr) (fun _ a _ => (c :: t).length - (intOf a).toNat)
        case atStart => exact ⟨0, Nat.zero_le _, rfl, Lib.hid (fun j _ hj => absurd hj (by omega)), rfl⟩
        case round =>
          obtain ⟨k, hk, rfl, hf, rfl⟩ := hrel
          by_cases hlt : k < (c :: t).length
          · have hs : k < (⟨(c :: t).toArray⟩ : ByteArray).size := hlt
            have hi : (k : Int) < (t.length : Int) + 1 := by simp only [List.length_cons] at hlt; omega
            by_cases hd : digB ((⟨(c :: t).toArray⟩ : ByteArray)[k]'hs) = true
            · have hN := Lib.hid (show firstD ⟨(c :: t).toArray⟩ (k + 1) from fun j hj hjk => by
                rcases Nat.lt_or_ge j k with h | h
                · exact hf.out j hj h
                · obtain rfl : j = k := by omega
                  exact hd)
              have hb : 48 ≤ ((⟨(c :: t).toArray⟩ : ByteArray)[k]'hs).toNat ∧ ((⟨(c :: t).toArray⟩ : ByteArray)[k]'hs).toNat ≤ 57 := by simpa [digB] using hd
              have d1 : decide ((((⟨(c :: t).toArray⟩ : ByteArray)[k]'hs).toNat : Int) < 48) = false := by simp; omega
              have d2 : decide ((57 : Int) < (((⟨(c :: t).toArray⟩ : ByteArray)[k]'hs).toNat : Int)) = false := by simp; omega
              clear hd hb
              go_wp2_with (fail)
              go_roundw
              case rel => exact ⟨k + 1, by omega, by go_num, hN, trivial⟩
              case measure => simp only [List.length_cons] at hlt ⊢; simp [intOf]; omega
            · have hN := Lib.hid (all_no (l := c :: t) hs (by simpa using hd))
              rcases Nat.lt_or_ge ((⟨(c :: t).toArray⟩ : ByteArray)[k]'hs).toNat 48 with h48 | h48
              · have d1 : decide ((((⟨(c :: t).toArray⟩ : ByteArray)[k]'hs).toNat : Int) < 48) = true := by simp; omega
                have d2 : (((⟨(c :: t).toArray⟩ : ByteArray)[k]'hs).toNat : Int) < 48 := by omega
                clear hd h48
                go_wp2_with (fail)
                go_ret
                exact ⟨by rw [hr.out, hN.out]; rfl, rfl⟩
              · have hb : 57 < ((⟨(c :: t).toArray⟩ : ByteArray)[k]'hs).toNat := by
                  rcases Nat.lt_or_ge 57 ((⟨(c :: t).toArray⟩ : ByteArray)[k]'hs).toNat with h | h
                  · exact h
                  · exact absurd (show digB ((⟨(c :: t).toArray⟩ : ByteArray)[k]'hs) = true by simp [digB, h48, h]) hd
                have d1 : decide ((((⟨(c :: t).toArray⟩ : ByteArray)[k]'hs).toNat : Int) < 48) = false := by simp; omega
                have d2 : decide ((57 : Int) < (((⟨(c :: t).toArray⟩ : ByteArray)[k]'hs).toNat : Int)) = true := by simp; omega
                have d3 : (57 : Int) < (((⟨(c :: t).toArray⟩ : ByteArray)[k]'hs).toNat : Int) := by omega
                clear hd h48 hb
                go_wp2_with (fail)
                go_ret
                exact ⟨by rw [hr.out, hN.out]; rfl, rfl⟩
          · have hke : k = (c :: t).length := by omega
            have hN := Lib.hid (all_of (l := c :: t) (by rw [← hke]; exact hf.out))
            have hi : decide ((k : Int) < (t.length : Int) + 1) = false := by simp only [List.length_cons] at hke; simp; omega
            clear hke hlt
            go_wp2_with (fail)
            go_ret
            exact ⟨by rw [hr.out, hN.out]; rfl, rfl⟩
      · have h1 : ¬ ((((⟨(c :: t).toArray⟩ : ByteArray)[0]'(Nat.zero_lt_succ _)).toNat : Int) = 48) := by show ¬ ((c.toNat : Int) = 48); omega
        have h2 : ((((⟨(c :: t).toArray⟩ : ByteArray)[0]'(Nat.zero_lt_succ _)).toNat : Int) == 48) = false := by simpa using h1
        clear h h48
        go_enter Tryd.func65, Tryd.ntmps65
        go_wp2_with (fail)
        go_loopw [3, 18] (fun _ a wr => ∃ k : Nat, k ≤ (c :: t).length ∧ a = .int .i64 k ∧ Hid (firstD ⟨(c :: t).toArray⟩ k) ∧ w = wr) (fun _ a _ => (c :: t).length - (intOf a).toNat)
        case atStart => exact ⟨0, Nat.zero_le _, rfl, Lib.hid (fun j _ hj => absurd hj (by omega)), rfl⟩
        case round =>
          obtain ⟨k, hk, rfl, hf, rfl⟩ := hrel
          by_cases hlt : k < (c :: t).length
          · have hs : k < (⟨(c :: t).toArray⟩ : ByteArray).size := hlt
            have hi : (k : Int) < (t.length : Int) + 1 := by simp only [List.length_cons] at hlt; omega
            by_cases hd : digB ((⟨(c :: t).toArray⟩ : ByteArray)[k]'hs) = true
            · have hN := Lib.hid (show firstD ⟨(c :: t).toArray⟩ (k + 1) from fun j hj hjk => by
                rcases Nat.lt_or_ge j k with h | h
                · exact hf.out j hj h
                · obtain rfl : j = k := by omega
                  exact hd)
              have hb : 48 ≤ ((⟨(c :: t).toArray⟩ : ByteArray)[k]'hs).toNat ∧ ((⟨(c :: t).toArray⟩ : ByteArray)[k]'hs).toNat ≤ 57 := by simpa [digB] using hd
              have d1 : decide ((((⟨(c :: t).toArray⟩ : ByteArray)[k]'hs).toNat : Int) < 48) = false := by simp; omega
              have d2 : decide ((57 : Int) < (((⟨(c :: t).toArray⟩ : ByteArray)[k]'hs).toNat : Int)) = false := by simp; omega
              clear hd hb
              go_wp2_with (fail)
              go_roundw
              case rel => exact ⟨k + 1, by omega, by go_num, hN, trivial⟩
              case measure => simp only [List.length_cons] at hlt ⊢; simp [intOf]; omega
            · have hN := Lib.hid (all_no (l := c :: t) hs (by simpa using hd))
              rcases Nat.lt_or_ge ((⟨(c :: t).toArray⟩ : ByteArray)[k]'hs).toNat 48 with h48 | h48
              · have d1 : decide ((((⟨(c :: t).toArray⟩ : ByteArray)[k]'hs).toNat : Int) < 48) = true := by simp; omega
                have d2 : (((⟨(c :: t).toArray⟩ : ByteArray)[k]'hs).toNat : Int) < 48 := by omega
                clear hd h48
                go_wp2_with (fail)
                go_ret
                exact ⟨by rw [hr.out, hN.out]; rfl, rfl⟩
              · have hb : 57 < ((⟨(c :: t).toArray⟩ : ByteArray)[k]'hs).toNat := by
                  rcases Nat.lt_or_ge 57 ((⟨(c :: t).toArray⟩ : ByteArray)[k]'hs).toNat with h | h
                  · exact h
                  · exact absurd (show digB ((⟨(c :: t).toArray⟩ : ByteArray)[k]'hs) = true by simp [digB, h48, h]) hd
                have d1 : decide ((((⟨(c :: t).toArray⟩ : ByteArray)[k]'hs).toNat : Int) < 48) = false := by simp; omega
                have d2 : decide ((57 : Int) < (((⟨(c :: t).toArray⟩ : ByteArray)[k]'hs).toNat : Int)) = true := by simp; omega
                have d3 : (57 : Int) < (((⟨(c :: t).toArray⟩ : ByteArray)[k]'hs).toNat : Int) := by omega
                clear hd h48 hb
                go_wp2_with (fail)
                go_ret
                exact ⟨by rw [hr.out, hN.out]; rfl, rfl⟩
          · have hke : k = (c :: t).length := by omega
            have hN := Lib.hid (all_of (l := c :: t) (by rw [← hke]; exact hf.out))
            have hi : decide ((k : Int) < (t.length : Int) + 1) = false := by simp only [List.length_cons] at hke; simp; omega
            clear hke hlt
            go_wp2_with (fail)
            go_ret
            exact ⟨by rw [hr.out, hN.out]; rfl, rfl⟩
end Go.Proofs.YtnkklmbmodkogaaDoor

/-! Pa2 -/
namespace Go.Proofs.YtnkklmbmodkogaaDoor
open Go.RowKit

/-- The value of a numeral. -/
def decV (l : List UInt8) : Nat := l.foldl (fun a c => a * 10 + (c.toNat - 48)) 0
theorem decV_snoc (l : List UInt8) (c : UInt8) : decV (l ++ [c]) = decV l * 10 + (c.toNat - 48) := by simp [decV]
theorem decV_take {l : List UInt8} {k : Nat} (h : k < l.length) : decV (l.take (k + 1)) = decV (l.take k) * 10 + (l[k].toNat - 48) := by
  rw [List.take_succ_eq_append_getElem h, decV_snoc]
theorem decV_mono (l : List UInt8) : ∀ m : List UInt8, decV l ≤ decV (l ++ m) := by
  intro m
  induction m generalizing l with
  | nil => simp
  | cons c m ih =>
    have h := ih (l ++ [c])
    rw [List.append_assoc, List.singleton_append] at h
    have h2 := decV_snoc l c
    omega
theorem decV_le_take (l : List UInt8) (k : Nat) : decV (l.take k) ≤ decV l := by
  have := decV_mono (l.take k) (l.drop k)
  rwa [List.take_append_drop] at this
/-- The carry of a multiplication by ten. -/
def tenC (W v d k : Nat) : Nat := (v % W ^ k * 10 + d) / W ^ k
theorem ten_step (W v d k : Nat) (hW : 0 < W) : v / W ^ k % W * 10 + tenC W v d k = (v % W ^ (k + 1) * 10 + d) / W ^ k := by
  have hp : 0 < W ^ k := Nat.pow_pos hW
  have e : v % W ^ (k + 1) = W ^ k * (v / W ^ k % W) + v % W ^ k := by
    rw [Nat.pow_succ, Nat.mod_mul]; omega
  unfold tenC
  rw [e, show (W ^ k * (v / W ^ k % W) + v % W ^ k) * 10 + d = W ^ k * (v / W ^ k % W * 10) + (v % W ^ k * 10 + d) from by rw [Nat.add_mul, Nat.mul_assoc]; omega, Nat.mul_add_div hp]
theorem ten_hi (W v d k : Nat) (hW : 0 < W) : (v / W ^ k % W * 10 + tenC W v d k) / W = tenC W v d (k + 1) := by
  rw [ten_step W v d k hW, Nat.div_div_eq_div_mul, ← Nat.pow_succ]; rfl
theorem ten_lo (W v d k : Nat) (hW : 0 < W) : (v / W ^ k % W * 10 + tenC W v d k) % W = (v * 10 + d) / W ^ k % W := by
  rw [ten_step W v d k hW]
  have h1 : ∀ n : Nat, n / W ^ k % W = n % W ^ (k + 1) / W ^ k := fun n => by rw [Nat.pow_succ, Nat.mod_mul_right_div_self]
  rw [h1, h1]
  congr 1
  rw [Nat.add_mod, Nat.mod_mul_mod, ← Nat.add_mod]
theorem tenC_zero (W v d : Nat) : tenC W v d 0 = d := by simp [tenC, Nat.mod_one]
theorem tenC_le {W v d k : Nat} (hW : 0 < W) (hd : d ≤ 9) : tenC W v d k ≤ 9 := by
  have hp : 0 < W ^ k := Nat.pow_pos hW
  have := Nat.mod_lt v hp
  unfold tenC
  have : (v % W ^ k * 10 + d) / W ^ k < 10 := (Nat.div_lt_iff_lt_mul hp).2 (by omega)
  omega
/-- The same at limbs. -/
theorem ten_limb (v d k : Nat) (_hd : d ≤ 9) : hi64 (limb v k * 10 + (tenC 18446744073709551616 v d k : Int) + 0) = (tenC 18446744073709551616 v d (k + 1) : Int) ∧ lo64 (limb v k * 10 + (tenC 18446744073709551616 v d k : Int) + 0) = limb (v * 10 + d) k := by
  have h1 := ten_hi 18446744073709551616 v d k (by omega)
  have h2 := ten_lo 18446744073709551616 v d k (by omega)
  unfold limb hi64 lo64
  rw [← h1, ← h2]
  constructor <;> omega
theorem ten_end {v d : Nat} (hv : v < 18446744073709551616 ^ 8) : ((tenC 18446744073709551616 v d 8 : Int) = 0) ↔ fits (v * 10 + d) = true := by
  unfold tenC
  rw [Nat.mod_eq_of_lt hv, fits_iff]
  generalize (18446744073709551616 : Nat) ^ 8 = P at *
  have hp : 0 < P := by omega
  constructor
  · intro h
    have h0 : (v * 10 + d) / P = 0 := by omega
    rcases Nat.lt_or_ge (v * 10 + d) P with hl | hl
    · exact hl
    · have := Nat.div_pos hl hp; omega
  · intro h; rw [Nat.div_eq_of_lt h]; rfl
end Go.Proofs.YtnkklmbmodkogaaDoor

/-! Pa3 -/
namespace Go.Proofs.YtnkklmbmodkogaaDoor
open Go.RowKit

theorem mag_get (v j : Nat) (hj : j < 8) : (mag (lm v))[j]? = some (.int .u64 (limb v j)) := by
  simp only [mag, List.getElem?_toArray, List.getElem?_map]
  simp [lm, hj]
theorem index_mag (v j : Nat) (hj : j < 8) (W : World) : (Instr.index 56 (.agg (mag (lm v))) (.int .i64 (j : Int))).run Tryd.prog W = .ok (.int .u64 (limb v j)) W := by
  have hg := mag_get v j hj
  have h1 : (0 : Int) ≤ j ∧ (j : Int) < 8 := by omega
  have h2 : (j : Int) < 8 := by omega
  have h3 : j < (mag (lm v)).size := by simp [mag_size]; omega
  simp [Instr.index, run_underlying Tryd.underlying56, asIntOf, h1, go_sem, Tryd.sizeOf54, part, hg]
  intro h; omega
def ten64 (v d k : Nat) : Nat := tenC 18446744073709551616 v d k
set_option maxRecDepth 100000 in
set_option maxHeartbeats 4000000 in
theorem fromDec_any (l : List UInt8) (w : World) (hl : l.length ≤ 1000000000000) (hd : l.all digB = true) :
    Calls Tryd.prog 66 #[.string ⟨l.toArray⟩] w fun e w' => e = .returned (.tuple #[.agg (mag (lm (prodM (decV l)))), .bool (fits (decV l))]) ∧ Below w.heap.size w w' := by
  have hdig : ∀ k (h : k < l.length), 48 ≤ (l[k]'h).toNat ∧ (l[k]'h).toNat ≤ 57 := fun k h => by
    have := List.all_eq_true.1 hd (l[k]'h) (List.getElem_mem h)
    simpa [digB] using this
  have HD := Lib.hid hdig
  obtain ⟨hv0, hv1, hbW, hsz⟩ := boxes2 w 56 56 (mag [0, 0, 0, 0, 0, 0, 0, 0]) (mag [0, 0, 0, 0, 0, 0, 0, 0])
  rw [zero8] at hv0 hv1 hbW hsz
  clear hdig hd
  go_enter Tryd.func66, Tryd.ntmps66
  go_wp2_with (fail)
  generalize (w.alloc (.cells #[.int .u64 0, .int .u64 0, .int .u64 0, .int .u64 0, .int .u64 0, .int .u64 0, .int .u64 0, .int .u64 0] 56)).alloc (.cells #[.int .u64 0, .int .u64 0, .int .u64 0, .int .u64 0, .int .u64 0, .int .u64 0, .int .u64 0, .int .u64 0] 56) = W at *
  have hR0 : Box W w.heap.size 56 [0, 0, 0, 0, 0, 0, 0, 0] := hv0
  have hM0 : Box W (w.heap.size + 1) 56 (lm 0) := by rw [lm_zero]; exact hv1
  have HB0 := Lib.hid hbW
  clear hv0 hv1 hbW hsz
  go_loopw [5, 6, 11] (fun _ _ a wr => ∃ k : Nat, k ≤ l.length ∧ a = .int .i64 k ∧ Hid (decV (l.take k) < 18446744073709551616 ^ 8) ∧ Box wr (w.heap.size + 1) 56 (lm (decV (l.take k))) ∧ Box wr w.heap.size 56 [0, 0, 0, 0, 0, 0, 0, 0] ∧ Hid (Below w.heap.size w wr)) (fun _ _ a _ => l.length - (intOf a).toNat)
  case atStart => exact ⟨0, Nat.zero_le _, rfl, Lib.hid (by show (0 : Nat) < _; decide), by show Box W _ _ (lm (decV (l.take 0))); exact hM0, hR0, HB0⟩
  case round =>
    obtain ⟨k, hk, rfl, hf, hm, hr, hb⟩ := hrel
    clear hM0 hR0 HB0
    by_cases hlt : k < l.length
    · obtain ⟨d0, d1⟩ := HD.out k hlt
      have hdv := decV_take hlt
      have hsub : IntKind.u8.wrap (((l[k]'hlt).toNat : Int) - 48) = (((l[k]'hlt).toNat - 48 : Nat) : Int) := by rw [IntKind.wrap_u8]; omega
      have hcv : IntKind.u64.wrap (((l[k]'hlt).toNat - 48 : Nat) : Int) = (((l[k]'hlt).toNat - 48 : Nat) : Int) := uw _ (by omega)
      have hd9 : (l[k]'hlt).toNat - 48 ≤ 9 := by omega
      have HDV := Lib.hid hdv
      have hbyte : ((⟨l.toArray⟩ : ByteArray)[k]'hlt).toNat = (l[k]'hlt).toNat := rfl
      clear hdv d0 d1
      go_wp2_with (first | (refine ldm rfl _ rfl _ rfl _ hm (lm_len _) ?_))
      generalize hvv : decV (l.take k) = v at *
      generalize hdd : (l[k]'hlt).toNat - 48 = d at *
      have HLT := Lib.hid hlt
      have HV9 := Lib.hid hd9
      have HM := Lib.hid hm
      clear hm hsub hcv hbyte
      go_loopw [6, 20] (fun cr a wr => ∃ j : Nat, j ≤ 8 ∧ a = .int .i64 j ∧ cr = .int .u64 (ten64 v d j) ∧ Box wr (w.heap.size + 1) 56 (mixl (limb (v * 10 + d)) (limb v) j) ∧ Box wr w.heap.size 56 [0, 0, 0, 0, 0, 0, 0, 0] ∧ Hid (Below w.heap.size w wr)) (fun _ a _ => 8 - (intOf a).toNat)
      case atStart => exact ⟨0, by omega, rfl, by rw [show ten64 v d 0 = d from tenC_zero _ v d], by rw [mixl_zero]; exact HM.out, hr, hb⟩
      case round =>
        obtain ⟨j, hj, rfl, rfl, hx, hz, hb2⟩ := hrel
        clear hr hb
        by_cases h8 : j < 8
        · have j8 : (j : Int) < 8 := by omega
          have hix := index_mag v j h8
          have z1 := hx.free j
          have c1 := hx.cell j (by simpa using h8)
          obtain ⟨e1, e2⟩ := ten_limb v d j HV9.out
          have c9 := tenC_le (W := 18446744073709551616) (v := v) (k := j) (by omega) HV9.out
          obtain ⟨l0, l1⟩ := limb_w v j
          have HC := Lib.hid (fun w => mulAdd_any (limb v j) 10 (ten64 v d j) 0 w ⟨l0, l1⟩ (by constructor <;> omega) (by unfold ten64; constructor <;> omega) (by constructor <;> omega))
          have E1 := Lib.hid (show hi64 (limb v j * 10 + (ten64 v d j : Int) + 0) = (ten64 v d (j + 1) : Int) from e1)
          have E2 := Lib.hid (show lo64 (limb v j * 10 + (ten64 v d j : Int) + 0) = limb (v * 10 + d) j from e2)
          have hX := hx.set_ j (limb (v * 10 + d) j)
          rw [mixl_set _ _ _ _ rfl] at hX
          have HX := Lib.hid hX
          have HZ := Lib.hid (hz.far (p := ⟨w.heap.size + 1, j, none⟩) (by simp) (.int .u64 (limb (v * 10 + d) j)))
          have HB := Lib.hid (hb2.out.setCell (p := ⟨w.heap.size + 1, j, none⟩) (by simp) (.int .u64 (limb (v * 10 + d) j)))
          clear hX e1 e2 l0 l1 c9 h8 hx hz hb2
          go_wp2_with (go_at_call 73; refine (HC.out _).mono ?_; rw [E1.out, E2.out]; rintro e w' ⟨rfl, rfl⟩)
          exact ⟨⟨j + 1, by omega, by go_num, rfl, HX.out, HZ.out, HB⟩, by simp [intOf]; omega⟩
        · obtain rfl : j = 8 := by omega
          rw [mixl_all] at hx
          have HX := Lib.hid (show Box wr (w.heap.size + 1) 56 (lm (v * 10 + d)) from hx)
          have HZ := Lib.hid hz
          have HE := Lib.hid (ten_end (d := d) hf.out)
          have HLE := Lib.hid (show v * 10 + d ≤ decV l by rw [← HDV.out]; exact decV_le_take l (k + 1))
          clear hx hz h8
          by_cases hfit : fits (v * 10 + d) = true
          · have hc0 : (ten64 v d 8 : Int) = 0 := HE.out.2 hfit
            have hc1 : ((ten64 v d 8 : Int) != 0) = false := by simp [hc0]
            go_wp2_with (fail)
            exact ⟨⟨k + 1, by have := HLT.out; omega, by go_num, Lib.hid (by rw [HDV.out]; exact (fits_iff _).1 hfit), by rw [HDV.out]; exact HX.out, HZ.out, hb2⟩, by have := HLT.out; simp [intOf]; omega⟩
          · have hc0 : ¬ (ten64 v d 8 : Int) = 0 := fun h => hfit (HE.out.1 h)
            have hc1 : ((ten64 v d 8 : Int) != 0) = true := by simpa using hc0
            have hno : fits (decV l) = false := fits_mono HLE.out (by simpa using hfit)
            have HNO := Lib.hid hno
            have HW := Lib.hid (below_setRow (g := w.heap.size) (cs := mag [0, 0, 0, 0, 0, 0, 0, 0]) hb2.out (Nat.le_refl _))
            clear hno hfit
            go_wp2_with (first | (refine stm rfl _ _ rfl _ rfl _ [0, 0, 0, 0, 0, 0, 0, 0] rfl HZ.out rfl rfl ?_))
            refine bodyPost_ret (res_mag_tmp rfl _ _ w.heap.size [0, 0, 0, 0, 0, 0, 0, 0] (.bool false) rfl rfl HZ.out.setRow rfl) rfl ⟨?_, HW.out⟩
            rw [HNO.out, prodM_no HNO.out, lm_zero]
    · obtain rfl : k = l.length := by omega
      rw [List.take_length] at hf hm
      have hyes := (fits_iff _).2 hf.out
      have HM := Lib.hid hm
      have HR := Lib.hid hr
      have HY := Lib.hid hyes
      have HW := Lib.hid (below_setRow (g := w.heap.size) (cs := mag (lm (decV l))) hb.out (Nat.le_refl _))
      clear hm hr hyes hb hlt
      go_wp2_with (first | (refine ldm rfl _ rfl _ rfl _ HM.out (lm_len _) ?_) | (refine stm rfl _ _ rfl _ rfl _ _ rfl HR.out (lm_len _) rfl ?_))
      refine bodyPost_ret (res_mag_tmp rfl _ _ w.heap.size (lm (decV l)) (.bool true) rfl rfl HR.out.setRow (lm_len _)) rfl ⟨?_, HW.out⟩
      rw [HY.out, prodM_yes HY.out]
end Go.Proofs.YtnkklmbmodkogaaDoor

/-! Pa4 -/
namespace Go.Proofs.YtnkklmbmodkogaaDoor
open Go.RowKit

/-- The sign and the digits of a text. -/
def parN (l : List UInt8) : Bool := Lib.hasPrefix l [45]
def parD (l : List UInt8) : List UInt8 := Lib.trimPrefix l [45]
def parOk (l : List UInt8) : Bool := decB (parD l) && !(parN l && decide (parD l = [48]))
def parZ (l : List UInt8) : Int := if parOk l && fits (decV (parD l)) then sgn (parN l) (decV (parD l)) else 0
def parE (l : List UInt8) : Int := if parOk l then (if fits (decV (parD l)) then 0 else 7) else 6

theorem par_no {l : List UInt8} (h : (decB (parD l) && !(parN l && decide (parD l = [48]))) = false) : parZ l = 0 ∧ parE l = 6 := by
  unfold parZ parE parOk; rw [h]; exact ⟨rfl, rfl⟩
theorem par_yes {l : List UInt8} (h : (decB (parD l) && !(parN l && decide (parD l = [48]))) = true) : (if fits (decV (parD l)) then sgn (parN l) (decV (parD l)) else 0) = parZ l ∧ (if fits (decV (parD l)) then (0 : Int) else 7) = parE l := by
  unfold parZ parE parOk; rw [h]; exact ⟨by rw [Bool.true_and], rfl⟩
theorem decB_all {l : List UInt8} (h : decB l = true) : l.all digB = true := by
  cases l with
  | nil => rfl
  | cons c t =>
    simp only [decB, Bool.and_eq_true] at h
    exact h.2
theorem parD_len {l : List UInt8} (h : l.length ≤ 1000000000000) : (parD l).length ≤ 1000000000000 := by
  unfold parD Lib.trimPrefix
  split
  · rw [List.length_drop]; omega
  · exact h
theorem prodM_sgn (ng : Bool) (v : Nat) : (if fits v = true then sgn ng (prodM v) else 0) = (if fits v = true then sgn ng v else 0) := by
  by_cases h : fits v = true
  · rw [if_pos h, if_pos h, prodM_yes h]
  · rw [if_neg h, if_neg h]

set_option maxRecDepth 100000 in
set_option maxHeartbeats 4000000 in
theorem parse_any (l : List UInt8) (w : World) (hl : l.length ≤ 1000000000000) :
    Calls Tryd.prog 39 #[.string ⟨l.toArray⟩] w (RetIntE w (parZ l) (parE l)) := by
  obtain ⟨hv0, hbW, hsz⟩ := boxes1 w 24 #[.bool false, .slice none 0 0]
  have hD := parD_len hl
  have HNO := Lib.hid (par_no (l := l))
  have HYES := Lib.hid (par_yes (l := l))
  have HC := Lib.hid (fun w => Tryd.strings_CutPrefix ⟨l.toArray⟩ ⟨#[45]⟩ w)
  go_enter Tryd.func39, Tryd.ntmps39
  go_wp2_with (fail)
  generalize w.alloc (.cells #[.bool false, .slice none 0 0] 24) = W at *
  have hlt : w.heap.size < W.heap.size := by omega
  refine (HC.out _).mono ?_
  rintro e w1 ⟨rfl, rfl⟩
  rw [show Lib.trimPrefix (⟨l.toArray⟩ : ByteArray).data.toList (⟨#[45]⟩ : ByteArray).data.toList = parD l from rfl, show Lib.hasPrefix (⟨l.toArray⟩ : ByteArray).data.toList (⟨#[45]⟩ : ByteArray).data.toList = parN l from rfl]
  clear HC hl
  generalize parD l = D at *
  generalize parN l = ng at *
  go_wp2_with (fail)
  refine (isDec_any D _ hD).mono ?_
  rintro e w2 ⟨rfl, rfl⟩
  have s0 := hv0.cell 0; have s1 := hv0.cell 1; have t0 := hv0.free 0; have t1 := hv0.free 1
  simp only [List.getElem?_toArray, List.getElem?_cons_succ, List.getElem?_cons_zero] at s0 s1
  have HBW := Lib.hid hbW
  have HV0 := Lib.hid hv0
  have HRZ := Lib.hid (retIntE_store (er := 6) (intIs_zero _ _) hv0 hbW (Nat.le_refl _))
  clear hbW hv0
  cases hdec : decB D
  · rw [hdec] at HNO
    have E := HNO.out (by rfl)
    go_wp2_with (fail)
    rw [E.1, E.2]
    exact bodyPost_ret (v := .tuple #[.agg #[.bool false, .slice none 0 0], .int .i64 6]) (by simp [results, Tryd.results39, go_sem, s0, s1]) rfl HRZ.out
  · rw [hdec] at HNO HYES
    have HALL := Lib.hid (decB_all hdec)
    cases ng
    · have E1 := HYES.out (by rfl)
      have E2 := prodM_sgn false (decV D)
      rw [E1.1] at E2
      have EE := Lib.hid (And.intro E2 E1.2)
      have HPL := Lib.hid (prodM_lt (decV D))
      clear E1 E2 HYES HNO HRZ s0 s1 t0 t1
      have h0b : True := trivial
      go_wp2_with (fail)
      refine (fromDec_any D _ hD HALL.out).mono ?_
      rintro e w3 ⟨rfl, q3⟩
      obtain ⟨z3, b3, l3⟩ := fill_new w3 (lm (prodM (decV D)))
      have q4 := Lib.hid (q3.trans (l3.mono q3.size))
      have Z3 := Lib.hid z3
      have B3 := Lib.hid b3
      clear z3 b3 l3 q3 hdec
      generalize fits (decV D) = ok at *
      generalize prodM (decV D) = pd at *
      go_wp2_with (first | (refine stm rfl _ _ rfl _ rfl _ _ rfl Z3.out (lm_len _) rfl ?_) | (refine ldm rfl _ rfl _ rfl _ B3.out (lm_len _) ?_))
      refine (checked_any false pd ok (lm pd) _ HPL.out rfl).mono ?_
      rw [EE.out.1, EE.out.2]
      rintro e w5 ⟨⟨x1, rfl, hi⟩, hq⟩
      obtain ⟨f2, A2, n2, c2, rfl, hi3, hf2, hn2⟩ := hi.look
      clear hf2 hn2 hi
      have hl1 := Nat.lt_of_lt_of_le hlt q4.out.size
      have hvr := (HV0.out.below q4.out hlt).below hq hl1
      have s0 := hvr.cell 0; have s1 := hvr.cell 1; have t0 := hvr.free 0; have t1 := hvr.free 1
      simp only [List.getElem?_toArray, List.getElem?_cons_succ, List.getElem?_cons_zero] at s0 s1
      generalize parE l = er at *
      go_wp2_with (fail)
      have HXX := Lib.hid (retIntE_store (er := er) hi3 hvr ((HBW.out.trans (q4.out.mono (Nat.le_of_lt hlt))).trans (hq.mono (by have := q4.out.size; omega))) (Nat.le_refl _))
      exact bodyPost_ret (v := .tuple #[.agg #[.bool f2, .slice A2 n2 c2], .int .i64 er]) (by simp [results, Tryd.results39, go_sem, s0, s1]) rfl HXX.out
    · by_cases h0 : D = [48]
      · subst h0
        have E := HNO.out (by rfl)
        go_wp2_with (fail)
        rw [E.1, E.2]
        exact bodyPost_ret (v := .tuple #[.agg #[.bool false, .slice none 0 0], .int .i64 6]) (by simp [results, Tryd.results39, go_sem, s0, s1]) rfl HRZ.out
      · have E1 := HYES.out (by simp [h0])
        have E2 := prodM_sgn true (decV D)
        rw [E1.1] at E2
        have EE := Lib.hid (And.intro E2 E1.2)
        have HPL := Lib.hid (prodM_lt (decV D))
        clear E1 E2 HYES HNO HRZ s0 s1 t0 t1
        have h0b : (D == [48]) = false := by simpa using h0
        go_wp2_with (fail)
        refine (fromDec_any D _ hD HALL.out).mono ?_
        rintro e w3 ⟨rfl, q3⟩
        obtain ⟨z3, b3, l3⟩ := fill_new w3 (lm (prodM (decV D)))
        have q4 := Lib.hid (q3.trans (l3.mono q3.size))
        have Z3 := Lib.hid z3
        have B3 := Lib.hid b3
        clear z3 b3 l3 q3 hdec
        generalize fits (decV D) = ok at *
        generalize prodM (decV D) = pd at *
        go_wp2_with (first | (refine stm rfl _ _ rfl _ rfl _ _ rfl Z3.out (lm_len _) rfl ?_) | (refine ldm rfl _ rfl _ rfl _ B3.out (lm_len _) ?_))
        refine (checked_any true pd ok (lm pd) _ HPL.out rfl).mono ?_
        rw [EE.out.1, EE.out.2]
        rintro e w5 ⟨⟨x1, rfl, hi⟩, hq⟩
        obtain ⟨f2, A2, n2, c2, rfl, hi3, hf2, hn2⟩ := hi.look
        clear hf2 hn2 hi
        have hl1 := Nat.lt_of_lt_of_le hlt q4.out.size
        have hvr := (HV0.out.below q4.out hlt).below hq hl1
        have s0 := hvr.cell 0; have s1 := hvr.cell 1; have t0 := hvr.free 0; have t1 := hvr.free 1
        simp only [List.getElem?_toArray, List.getElem?_cons_succ, List.getElem?_cons_zero] at s0 s1
        generalize parE l = er at *
        go_wp2_with (fail)
        have HXX := Lib.hid (retIntE_store (er := er) hi3 hvr ((HBW.out.trans (q4.out.mono (Nat.le_of_lt hlt))).trans (hq.mono (by have := q4.out.size; omega))) (Nat.le_refl _))
        exact bodyPost_ret (v := .tuple #[.agg #[.bool f2, .slice A2 n2 c2], .int .i64 er]) (by simp [results, Tryd.results39, go_sem, s0, s1]) rfl HXX.out
end Go.Proofs.YtnkklmbmodkogaaDoor

/-! Ng1 -/
namespace Go.Proofs.YtnkklmbmodkogaaDoor
open Go.RowKit

set_option maxRecDepth 100000 in
set_option maxHeartbeats 2000000 in
theorem neg_int (x : Value) (z : Int) (w : World) (hx : IntIs w w.heap.size x z) (hz : blen z.natAbs ≤ 64) :
    Calls Tryd.prog 15 #[x] w (RetIntE w (-z) 0) := by
  obtain ⟨f, A, m, c, rfl, hx, hf, hn⟩ := hx.look
  obtain ⟨hv0, hv1, hbW, hsz⟩ := boxes2 w 24 24 #[.bool f, .slice A m c] #[.bool false, .slice none 0 0]
  have HX := Lib.hid (hx.step hbW)
  have HZ := Lib.hid hz
  have HN := Lib.hid (show sgn (!f) z.natAbs = -z by rw [hf]; exact sgn_not z)
  clear hx hz hn hf
  go_enter Tryd.func15, Tryd.ntmps15
  go_wp2_with (fail)
  generalize (w.alloc (.cells #[.bool f, .slice A m c] 24)).alloc (.cells #[.bool false, .slice none 0 0] 24) = W at *
  have hlt0 : w.heap.size < W.heap.size := by omega
  have hlt1 : w.heap.size + 1 < W.heap.size := by omega
  refine (valid_int _ z W HX.out HZ.out).mono ?_
  rintro e w1 ⟨rfl, q1⟩
  have HX1 := Lib.hid (HX.out.step q1)
  have v0 := hv0.below q1 hlt0
  have k0 := v0.cell 0; have k1 := v0.cell 1
  simp only [List.getElem?_toArray, List.getElem?_cons_succ, List.getElem?_cons_zero] at k0 k1
  have HV := Lib.hid (hv1.below q1 hlt1)
  have HW := Lib.hid (hbW.trans (q1.mono (Nat.le_of_lt hlt0)))
  have hl0 := Nat.lt_of_lt_of_le hlt0 q1.size
  have hl1 := Nat.lt_of_lt_of_le hlt1 q1.size
  have HA := Lib.hid (abs_lt HZ.out)
  clear v0 hv0 hv1 hbW q1
  go_wp2_with (fail)
  go_region_held3 (fun w' => w'.cell? ⟨w.heap.size, 0, none⟩ = some (.bool f) ∧ w'.cell? ⟨w.heap.size, 1, none⟩ = some (.slice A m c)) (first | exact ⟨by assumption, by assumption⟩ | go_keep)
    (first
      | (go_at_call 42; refine (magOf_int z _ (by exact HX1.out) HZ.out).mono ?_; rintro e w2 ⟨rfl, hq0⟩; have hq1 := undrew hq0; have k0' := kept_cell hq1 k0 hl0; have k1' := kept_cell hq1 k1 hl0)
      | (go_at_call 44; refine (signed_any (!f) z.natAbs _ HA.out).mono ?_; rintro e w3 ⟨⟨x2, rfl, hi2⟩, hq2'⟩; rw [HN.out] at hi2; have hq2 := hq1.trans (hq2'.mono hq1.size); have k0'' := kept_cell hq2 k0 hl0; have k1'' := kept_cell hq2 k1 hl0; have hv2 := HV.out.below hq2 hl1; have s0 := hv2.cell 0; have s1 := hv2.cell 1; have t0 := hv2.free 0; have t1 := hv2.free 1; simp only [List.getElem?_toArray, List.getElem?_cons_succ, List.getElem?_cons_zero] at s0 s1; obtain ⟨f2, A2, n2, c2, rfl, hi3, hf2, hn2⟩ := hi2.look; clear hf2 hn2))
  have HXX := Lib.hid (retIntE_store (er := 0) hi3 hv2 (HW.out.trans (hq2.mono (by show w.heap.size ≤ w1.heap.size; omega))) (Nat.le_succ _))
  clear hi2 hi3 hv2
  go_wp2_with (fail)
  exact bodyPost_ret (v := .tuple #[.agg #[.bool f2, .slice A2 n2 c2], .int .i64 0]) (by simp [results, Tryd.results15, go_sem, s0, s1]) rfl HXX.out
end Go.Proofs.YtnkklmbmodkogaaDoor
