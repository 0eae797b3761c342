/- The statement NumberPowers: what is shared, and the ways that end early. The statement NumberPowers: the walk of the ways that multiply. The statement NumberPowers: all ways. -/
import Derived.Test.YtnkklmbmodkogaaDoorG11
import Derived.Test.YtnkklmbmodkogaaDoorG9
/-! Pw1 -/
namespace Go.Proofs.YtnkklmbmodkogaaDoor
open Go.RowKit

theorem IntVar.put {w : World} {b : Nat} {f g : Bool} {A D : Option Addr} {n c m d : Nat} {z z' : Int} (h : IntVar w b f A n c z) (hi : IntIs w w.heap.size (.agg #[.bool g, .slice D m d]) z') :
    IntVar ((w.setCell ⟨b, 0, none⟩ (.bool g)).setCell ⟨b, 1, none⟩ (.slice D m d)) b g D m d z' := by
  refine ⟨?_, put_int hi h.1⟩
  have := (h.1.set_ 0 (.bool g)).set_ 1 (.slice D m d)
  simpa using this
theorem IntVar.other {w : World} {b b' : Nat} {f g f' : Bool} {A D A' : Option Addr} {n c m d n' c' : Nat} {z z' : Int} (h : IntVar w b f A n c z) (h' : IntVar w b' f' A' n' c' z') (hne : b' ≠ b) :
    IntVar ((w.setCell ⟨b, 0, none⟩ (.bool g)).setCell ⟨b, 1, none⟩ (.slice D m d)) b' f' A' n' c' z' :=
  ⟨(h'.1.far hne _).far hne _, put_int h'.2 h.1⟩

set_option maxHeartbeats 400000 in
theorem power_neg (x : Value) (z : Int) (n : Int) (w : World) (hx : IntIs w w.heap.size x z) (hz : blen z.natAbs ≤ 64) (h1 : n < 0) :
    Calls Tryd.prog 37 #[x, .int .i64 n] w (RetIntE w 0 2) := by
  obtain ⟨f, A, m, c, rfl, hx, -, -⟩ := hx.look
  obtain ⟨-, hv1, hb, -⟩ := boxes2 w 24 24 #[.bool f, .slice A m c] #[.bool false, .slice none 0 0]
  have HV := Lib.hid (valid_int _ z _ (hx.step hb) hz)
  have HB := Lib.hid hb
  have HV1 := Lib.hid hv1
  clear hx hz hb hv1
  go_enter Tryd.func37, Tryd.ntmps37
  go_wp2_with (fail)
  refine HV.out.mono ?_
  rintro e w1 ⟨rfl, q1⟩
  have hv := HV1.out.below q1 HV1.out.lt
  have s0 := hv.cell 0; have s1 := hv.cell 1; have t0 := hv.free 0; have t1 := hv.free 1
  simp only [List.getElem?_toArray, List.getElem?_cons_succ, List.getElem?_cons_zero] at s0 s1
  have HX := Lib.hid (retIntE_store (er := 2) (intIs_zero _ _) hv (bstep HB.out q1) (Nat.le_succ _))
  clear q1 hv
  go_wp2_with (fail)
  exact bodyPost_ret (v := .tuple #[.agg #[.bool false, .slice none 0 0], .int .i64 2]) (by simp [results, Tryd.results37, go_sem, s0, s1]) rfl HX.out

/-- The variable of a value that may not be valid. -/
theorem RawIs.var {w : World} {f : Bool} {A : Option Addr} {n c v : Nat} (h : RawIs w w.heap.size (.agg #[.bool f, .slice A n c]) f n v) :
    Var (w.alloc (.cells #[.bool f, .slice A n c] 24)) w.heap.size 24 #[.bool f, .slice A n c] ∧ RawIs (w.alloc (.cells #[.bool f, .slice A n c] 24)) (w.alloc (.cells #[.bool f, .slice A n c] 24)).heap.size (.agg #[.bool f, .slice A n c]) f n v ∧
    Below w.heap.size w (w.alloc (.cells #[.bool f, .slice A n c] 24)) := ⟨Var.new w _ _, h.step (below_alloc w _), below_alloc w _⟩

set_option maxRecDepth 100000 in
set_option maxHeartbeats 2000000 in
theorem powers_big {f : Bool} {n v : Nat} (x : Value) (m : Int) (w : World) (hx : RawIs w w.heap.size x f n v) (h : 80 < n) (ht : Tens w) :
    Calls Tryd.prog 7 #[x, .int .i64 m] w fun e w' => e = .returned (.bool true) ∧ Below w.heap.size w w' := by
  obtain ⟨A, c, rfl, hx⟩ := hx.look
  obtain ⟨hv, hr, hb⟩ := hx.var
  have V0 := Lib.hid (hv.alloc (.cells #[.bool f, .slice A n c] 24))
  have R0 := Lib.hid (hr.step (below_alloc _ (.cells #[.bool f, .slice A n c] 24)))
  have HB := Lib.hid (bal hb (.cells #[.bool f, .slice A n c] 24))
  have k0 := hv.cell 0
  have k1 := hv.cell 1
  simp only [List.getElem?_toArray, List.getElem?_cons_succ, List.getElem?_cons_zero] at k0 k1
  have hbg := (boxes2 w 24 24 #[.bool f, .slice A n c] #[.bool f, .slice A n c]).2.1.cell 1
  simp only [List.getElem?_toArray, List.getElem?_cons_succ, List.getElem?_cons_zero] at hbg
  have HG := Lib.hid (big_one _ A n c _ hbg)
  rw [decide_eq_true (by omega)] at HG
  have HT := Lib.hid ht
  have HH := Lib.hid h
  clear hx hv hr hb ht hbg h
  go_enter Tryd.func7, Tryd.ntmps7
  go_wp2_with (fail)
  generalize hW : (w.alloc (.cells #[.bool f, .slice A n c] 24)).alloc (.cells #[.bool f, .slice A n c] 24) = W at *
  clear hW
  refine HG.out.mono ?_
  rintro e w' ⟨rfl, rfl⟩
  clear HG
  have k0 := V0.out.cell 0
  have k1 := V0.out.cell 1
  simp only [List.getElem?_toArray, List.getElem?_cons_succ, List.getElem?_cons_zero] at k0 k1
  clear k0 k1
  go_wp2_with (fail)
  refine (known_any _ (HT.out.below HB.out)).mono ?_
  rintro e wk ⟨rfl, qk⟩
  have HQ := Lib.hid (bstep HB.out qk)
  clear qk
  go_wp2_with (fail)
  go_ret
  exact ⟨rfl, HQ.out⟩
set_option maxRecDepth 100000 in
set_option maxHeartbeats 2000000 in
theorem powers_bad (x : Value) (m : Int) (w : World) {f : Bool} {n v : Nat} (hx : RawIs w w.heap.size x f n v) (hv0 : validB f n v = false) (h : n ≤ 80) (ht : Tens w) :
    Calls Tryd.prog 7 #[x, .int .i64 m] w fun e w' => e = .returned (.bool true) ∧ Below w.heap.size w w' := by
  have HV := Lib.hid hv0
  clear hv0
  obtain ⟨A, c, rfl, hx⟩ := hx.look
  obtain ⟨hv, hr, hb⟩ := hx.var
  have V0 := Lib.hid (hv.alloc (.cells #[.bool f, .slice A n c] 24))
  have R0 := Lib.hid (hr.step (below_alloc _ (.cells #[.bool f, .slice A n c] 24)))
  have HB := Lib.hid (bal hb (.cells #[.bool f, .slice A n c] 24))
  have k0 := hv.cell 0
  have k1 := hv.cell 1
  simp only [List.getElem?_toArray, List.getElem?_cons_succ, List.getElem?_cons_zero] at k0 k1
  have hbg := (boxes2 w 24 24 #[.bool f, .slice A n c] #[.bool f, .slice A n c]).2.1.cell 1
  simp only [List.getElem?_toArray, List.getElem?_cons_succ, List.getElem?_cons_zero] at hbg
  have HG := Lib.hid (big_one _ A n c _ hbg)
  rw [decide_eq_false (by omega)] at HG
  have HT := Lib.hid ht
  have HH := Lib.hid h
  clear hx hv hr hb ht hbg h
  go_enter Tryd.func7, Tryd.ntmps7
  go_wp2_with (fail)
  generalize hW : (w.alloc (.cells #[.bool f, .slice A n c] 24)).alloc (.cells #[.bool f, .slice A n c] 24) = W at *
  clear hW
  refine HG.out.mono ?_
  rintro e w' ⟨rfl, rfl⟩
  clear HG
  have k0 := V0.out.cell 0
  have k1 := V0.out.cell 1
  simp only [List.getElem?_toArray, List.getElem?_cons_succ, List.getElem?_cons_zero] at k0 k1
  go_wp2_with (fail)
  refine (power_bad _ m _ R0.out HV.out).mono ?_
  rintro e w2 ⟨⟨y, rfl, j1⟩, q2⟩
  obtain ⟨g, D, p, d, rfl, j1, -, -⟩ := j1.look
  have VP := Lib.hid (IntVar.new j1)
  have qa := bstep q2 (below_alloc w2 (.cells #[.bool g, .slice D p d] 24))
  have HB := Lib.hid (bstep HB.out qa)
  have V0 := Lib.hid (V0.out.below qa V0.out.lt)
  have R0 := Lib.hid (R0.out.step qa)
  have k2 := VP.out.cells.1
  have k3 := VP.out.cells.2
  clear q2 qa j1 k0 k1
  have k0 := V0.out.cell 0
  have k1 := V0.out.cell 1
  simp only [List.getElem?_toArray, List.getElem?_cons_succ, List.getElem?_cons_zero] at k0 k1
  go_wp2_with (fail)
  generalize hW : w2.alloc (.cells #[.bool g, .slice D p d] 24) = W2 at *
  clear hW k2 k3
  generalize w2.heap.size = b2 at *
  refine (rvalid_is _ _ R0.out).mono ?_
  rw [HV.out]
  rintro e w3 ⟨rfl, q3⟩
  have VP := Lib.hid (VP.out.step q3)
  have HB := Lib.hid (bstep HB.out q3)
  have k2 := VP.out.cells.1
  have k3 := VP.out.cells.2
  clear q3 k0 k1
  go_wp2_with (fail)
  clear k2 k3
  refine (same_law _ _ 2 2 0 0 _ VP.out.2 (intIs_zero _ _)).mono ?_
  rw [show sameB 2 2 0 0 = true from by decide]
  rintro e w4 ⟨rfl, q4⟩
  have HB := Lib.hid (bstep HB.out q4)
  clear q4
  go_wp2_with (fail)
  refine (known_any _ (HT.out.below HB.out)).mono ?_
  rintro e wk ⟨rfl, qk⟩
  have HQ := Lib.hid (bstep HB.out qk)
  clear qk
  go_wp2_with (fail)
  go_ret
  exact ⟨rfl, HQ.out⟩
set_option maxRecDepth 100000 in
set_option maxHeartbeats 2000000 in
theorem powers_neg (x : Value) (m : Int) (w : World) {z : Int} (hz : IntIs w w.heap.size x z) (h0 : blen z.natAbs ≤ 64) (hm : m < 0) (ht : Tens w) :
    Calls Tryd.prog 7 #[x, .int .i64 m] w fun e w' => e = .returned (.bool true) ∧ Below w.heap.size w w' := by
  have hx := hz.raw
  obtain ⟨f, hf⟩ : ∃ f, f = decide (z < 0) := ⟨_, rfl⟩
  obtain ⟨n, hn⟩ : ∃ n, n = blen z.natAbs := ⟨_, rfl⟩
  rw [← hf, ← hn] at hx
  have h : n ≤ 80 := by omega
  have HZ := Lib.hid hz
  have H0 := Lib.hid h0
  have HM := Lib.hid hm
  have HF := Lib.hid (And.intro hf hn)
  have hmd : decide (m < 0) = true := decide_eq_true hm
  clear hz hf hn h0 hm
  obtain ⟨A, c, rfl, hx⟩ := hx.look
  obtain ⟨hv, hr, hb⟩ := hx.var
  have V0 := Lib.hid (hv.alloc (.cells #[.bool f, .slice A n c] 24))
  have R0 := Lib.hid (hr.step (below_alloc _ (.cells #[.bool f, .slice A n c] 24)))
  have HB := Lib.hid (bal hb (.cells #[.bool f, .slice A n c] 24))
  have k0 := hv.cell 0
  have k1 := hv.cell 1
  simp only [List.getElem?_toArray, List.getElem?_cons_succ, List.getElem?_cons_zero] at k0 k1
  have hbg := (boxes2 w 24 24 #[.bool f, .slice A n c] #[.bool f, .slice A n c]).2.1.cell 1
  simp only [List.getElem?_toArray, List.getElem?_cons_succ, List.getElem?_cons_zero] at hbg
  have HG := Lib.hid (big_one _ A n c _ hbg)
  rw [decide_eq_false (by omega)] at HG
  have HT := Lib.hid ht
  have HH := Lib.hid h
  clear hx hv hr hb ht hbg h
  go_enter Tryd.func7, Tryd.ntmps7
  go_wp2_with (fail)
  generalize hW : (w.alloc (.cells #[.bool f, .slice A n c] 24)).alloc (.cells #[.bool f, .slice A n c] 24) = W at *
  clear hW
  refine HG.out.mono ?_
  rintro e w' ⟨rfl, rfl⟩
  clear HG
  have k0 := V0.out.cell 0
  have k1 := V0.out.cell 1
  simp only [List.getElem?_toArray, List.getElem?_cons_succ, List.getElem?_cons_zero] at k0 k1
  go_wp2_with (fail)
  refine (power_neg _ z m _ (HZ.out.step HB.out) H0.out HM.out).mono ?_
  rintro e w2 ⟨⟨y, rfl, j1⟩, q2⟩
  obtain ⟨g, D, p, d, rfl, j1, -, -⟩ := j1.look
  have VP := Lib.hid (IntVar.new j1)
  have qa := bstep q2 (below_alloc w2 (.cells #[.bool g, .slice D p d] 24))
  have HB := Lib.hid (bstep HB.out qa)
  have V0 := Lib.hid (V0.out.below qa V0.out.lt)
  have R0 := Lib.hid (R0.out.step qa)
  have k2 := VP.out.cells.1
  have k3 := VP.out.cells.2
  clear q2 qa j1 k0 k1
  have k0 := V0.out.cell 0
  have k1 := V0.out.cell 1
  simp only [List.getElem?_toArray, List.getElem?_cons_succ, List.getElem?_cons_zero] at k0 k1
  go_wp2_with (fail)
  generalize hW : w2.alloc (.cells #[.bool g, .slice D p d] 24) = W2 at *
  clear hW k2 k3
  generalize w2.heap.size = b2 at *
  refine (rvalid_is _ _ R0.out).mono ?_
  rw [(show validB f n z.natAbs = true from by rw [HF.out.1, HF.out.2]; exact valid_of H0.out)]
  rintro e w3 ⟨rfl, q3⟩
  have VP := Lib.hid (VP.out.step q3)
  have HB := Lib.hid (bstep HB.out q3)
  have k2 := VP.out.cells.1
  have k3 := VP.out.cells.2
  clear q3 k0 k1
  go_wp2_with (fail)
  clear k2 k3
  refine (same_law _ _ 2 2 0 0 _ VP.out.2 (intIs_zero _ _)).mono ?_
  rw [show sameB 2 2 0 0 = true from by decide]
  rintro e w4 ⟨rfl, q4⟩
  have HB := Lib.hid (bstep HB.out q4)
  clear q4
  go_wp2_with (fail)
  refine (known_any _ (HT.out.below HB.out)).mono ?_
  rintro e wk ⟨rfl, qk⟩
  have HQ := Lib.hid (bstep HB.out qk)
  clear qk
  go_wp2_with (fail)
  go_ret
  exact ⟨rfl, HQ.out⟩
end Go.Proofs.YtnkklmbmodkogaaDoor

/-! Pw2 -/
namespace Go.Proofs.YtnkklmbmodkogaaDoor
open Go.RowKit

theorem fits_blen {v : Nat} : fits v = true ↔ blen v ≤ 64 := by
  rw [fits_iff, show (18446744073709551616 : Nat) ^ 8 = 256 ^ 64 from by decide]
  exact ⟨fun h => blen_le h, fun h => lt_of_blen h⟩
theorem pow_abs (z : Int) : ∀ k : Nat, (z ^ k).natAbs = z.natAbs ^ k
  | 0 => by simp
  | k + 1 => by rw [Int.pow_succ, Int.natAbs_mul, pow_abs z k, Nat.pow_succ]
/-- The exponents M and N give the same power. -/
def SamePow (z : Int) (M N : Nat) : Prop := powZ z N = powZ z M ∧ powE z N = powE z M
theorem samePow_refl (z : Int) (M : Nat) : SamePow z M M := ⟨rfl, rfl⟩
theorem samePow_of {z : Int} {M N : Nat} (h : z ^ N = z ^ M) : SamePow z M N := by
  have h1 : z.natAbs ^ N = z.natAbs ^ M := by rw [← pow_abs, ← pow_abs, h]
  unfold SamePow powZ powE
  rw [h1, h]
  exact ⟨rfl, rfl⟩
theorem samePow_zero {M : Nat} (h : 0 < M) : SamePow 0 M (2 - M % 2) := samePow_of (by rw [Int.zero_pow (by omega), Int.zero_pow (by omega)])
theorem one_pow' : ∀ k : Nat, (1 : Int) ^ k = 1
  | 0 => rfl
  | k + 1 => by rw [Int.pow_succ, one_pow' k]; rfl
theorem negone_pow (k : Nat) : (-1 : Int) ^ (2 * k) = 1 := by rw [Int.pow_mul]; exact one_pow' k
theorem samePow_one {z : Int} {M : Nat} (h : z.natAbs = 1) : SamePow z M (2 - M % 2) := by
  refine samePow_of ?_
  rcases (show z = 1 ∨ z = -1 by omega) with rfl | rfl
  · rw [one_pow', one_pow']
  · rcases Nat.mod_two_eq_zero_or_one M with hm | hm
    · obtain ⟨k, rfl⟩ : ∃ k, M = 2 * k := ⟨M / 2, by omega⟩
      rw [hm, show (2 - 0 : Nat) = 2 * 1 from rfl, negone_pow, negone_pow]
    · obtain ⟨k, rfl⟩ : ∃ k, M = 2 * k + 1 := ⟨M / 2, by omega⟩
      rw [hm, show (2 - 1 : Nat) = 2 * 0 + 1 from rfl, Int.pow_succ, Int.pow_succ, negone_pow, negone_pow]
theorem pow_end_yes {z : Int} {M N : Nat} (h : SamePow z M N) (hb : blen (z ^ N).natAbs ≤ 64) : powZ z M = z ^ N ∧ powE z M = 0 := by
  have hf : fits (z.natAbs ^ N) = true := fits_blen.2 (by rw [← pow_abs]; exact hb)
  rw [← h.1, ← h.2]
  unfold powZ powE
  rw [if_pos hf, if_pos hf]
  exact ⟨rfl, rfl⟩
theorem pow_end_no {z : Int} {M N k : Nat} (h : SamePow z M N) (hk : k ≤ N) (hb : 64 < blen (z ^ k).natAbs) : powZ z M = 0 ∧ powE z M = 7 := by
  have hu : 1 ≤ z.natAbs := by
    rcases Nat.eq_zero_or_pos z.natAbs with h0 | h0
    · have : (z ^ k).natAbs ≤ 1 := by
        rw [pow_abs, h0]
        rcases Nat.eq_zero_or_pos k with hk0 | hk0
        · subst hk0; simp
        · rw [Nat.zero_pow hk0]; omega
      have := blen_le (n := 1) (show (z ^ k).natAbs < 256 ^ 1 by omega)
      omega
    · exact h0
  have hf : fits (z.natAbs ^ N) = false := by
    have h1 : fits (z.natAbs ^ k) = false := by
      cases hc : fits (z.natAbs ^ k)
      · rfl
      · have := fits_blen.1 hc; rw [← pow_abs] at this; omega
    exact fits_mono (Nat.pow_le_pow_right hu hk) h1
  rw [← h.1, ← h.2]
  unfold powZ powE
  rw [hf]
  exact ⟨rfl, rfl⟩

set_option maxRecDepth 100000 in
set_option maxHeartbeats 4000000 in
theorem powers_zero (x : Value) (M : Nat) (w : World) {z : Int} (hz : IntIs w w.heap.size x z) (h0 : blen z.natAbs ≤ 64) (hm1 : M ≤ 9223372036854775807) (hzz : z = 0) (hM : 0 < M) (ht : Tens w) :
    Calls Tryd.prog 7 #[x, .int .i64 (M : Int)] w fun e w' => e = .returned (.bool true) ∧ Below w.heap.size w w' := by
  have hx := hz.raw
  obtain ⟨f, hf⟩ : ∃ f, f = decide (z < 0) := ⟨_, rfl⟩
  obtain ⟨n, hn⟩ : ∃ n, n = blen z.natAbs := ⟨_, rfl⟩
  rw [← hf, ← hn] at hx
  have h : n ≤ 80 := by omega
  have HZ := Lib.hid hz
  have H0 := Lib.hid h0
  have HM1 := Lib.hid hm1
  have HF := Lib.hid (And.intro hf hn)
  have hmd : decide ((M : Int) < 0) = false := by simp
  clear hz hf hn h0 hm1
  obtain ⟨A, c, rfl, hx⟩ := hx.look
  obtain ⟨hv, hr, hb⟩ := hx.var
  have V0 := Lib.hid (hv.alloc (.cells #[.bool f, .slice A n c] 24))
  have R0 := Lib.hid (hr.step (below_alloc _ (.cells #[.bool f, .slice A n c] 24)))
  have HB := Lib.hid (bal hb (.cells #[.bool f, .slice A n c] 24))
  have k0 := hv.cell 0
  have k1 := hv.cell 1
  simp only [List.getElem?_toArray, List.getElem?_cons_succ, List.getElem?_cons_zero] at k0 k1
  have hbg := (boxes2 w 24 24 #[.bool f, .slice A n c] #[.bool f, .slice A n c]).2.1.cell 1
  simp only [List.getElem?_toArray, List.getElem?_cons_succ, List.getElem?_cons_zero] at hbg
  have HG := Lib.hid (big_one _ A n c _ hbg)
  rw [decide_eq_false (by omega)] at HG
  have HT := Lib.hid ht
  have HH := Lib.hid h
  clear hx hv hr hb ht hbg h
  go_enter Tryd.func7, Tryd.ntmps7
  go_wp2_with (fail)
  generalize hW : (w.alloc (.cells #[.bool f, .slice A n c] 24)).alloc (.cells #[.bool f, .slice A n c] 24) = W at *
  clear hW
  refine HG.out.mono ?_
  rintro e w' ⟨rfl, rfl⟩
  clear HG
  have k0 := V0.out.cell 0
  have k1 := V0.out.cell 1
  simp only [List.getElem?_toArray, List.getElem?_cons_succ, List.getElem?_cons_zero] at k0 k1
  go_wp2_with (fail)
  have hz := HZ.out.step HB.out
  refine (power_int _ z M _ hz H0.out HM1.out).mono ?_
  rintro e w2 ⟨⟨y, rfl, j1⟩, q2⟩
  obtain ⟨g, D, p, d, rfl, j1, -, -⟩ := j1.look
  have VP := Lib.hid (IntVar.new j1)
  have qa := bstep q2 (below_alloc w2 (.cells #[.bool g, .slice D p d] 24))
  have VA := Lib.hid (show IntVar _ w.heap.size f A n c z from ⟨V0.out.below qa V0.out.lt, hz.step qa⟩)
  have hne1 : w.heap.size < w2.heap.size := Nat.lt_of_lt_of_le V0.out.lt q2.size
  have HB := Lib.hid (bstep HB.out qa)
  have R0 := Lib.hid (R0.out.step qa)
  have k2 := VP.out.cells.1
  have k3 := VP.out.cells.2
  clear q2 qa j1 k0 k1 hz V0
  have k0 := VA.out.cells.1
  have k1 := VA.out.cells.2
  generalize hpz : powZ z M = zp at *
  generalize hpe : powE z M = ep at *
  have HPZ := Lib.hid hpz
  have HPE := Lib.hid hpe
  clear hpz hpe
  go_wp2_with (fail)
  generalize hW : w2.alloc (.cells #[.bool g, .slice D p d] 24) = W2 at *
  clear hW k2 k3
  have hlt2 : w2.heap.size < W2.heap.size := VP.out.1.lt
  generalize w2.heap.size = b2 at *
  refine (rvalid_is _ _ R0.out).mono ?_
  rw [show validB f n z.natAbs = true from by rw [HF.out.1, HF.out.2]; exact valid_of H0.out]
  rintro e w3 ⟨rfl, q3⟩
  have VP := Lib.hid (VP.out.step q3)
  have VA := Lib.hid (VA.out.step q3)
  have HB := Lib.hid (bstep HB.out q3)
  have hlt3 : b2 < w3.heap.size := VP.out.1.lt
  clear q3 k0 k1 R0 hlt2
  have k0 := VA.out.cells.1
  have k1 := VA.out.cells.2
  have hb0 : ((n : Int) == 0) = true := by rw [HF.out.2, hzz]; simp [blen_zero]
  have hMd : decide ((0 : Int) < M) = true := by simp; omega
  have hbg := trivial
  go_wp2_with (fail)
  obtain ⟨N, hN⟩ : ∃ N : Nat, (N : Int) = 2 - (M : Int) % 2 := ⟨2 - M % 2, by omega⟩
  rw [← hN]
  have hN' : N = 2 - M % 2 := by omega
  have hNM : N ≤ 2 := by omega
  have HS := Lib.hid (show SamePow z M N from hN' ▸ (hzz ▸ samePow_zero hM))
  clear hN hN'

  refine (of_lit 1 w3 (by decide)).mono ?_
  rintro e w4 ⟨⟨y, rfl, j1⟩, q4⟩
  obtain ⟨g4, D4, p4, d4, rfl, j1, -, -⟩ := j1.look
  have VW := Lib.hid (IntVar.new j1)
  have qa := bstep q4 (below_alloc w4 (.cells #[.bool g4, .slice D4 p4 d4] 24))
  have VP := Lib.hid (VP.out.step qa)
  have VA := Lib.hid (VA.out.step qa)
  have HB := Lib.hid (bstep HB.out qa)
  have hb4 : b2 < w4.heap.size := Nat.lt_of_lt_of_le hlt3 q4.size
  clear q4 qa j1 k0 k1 hbg
  go_wp2_with (fail)
  generalize hW : w4.alloc (.cells #[.bool g4, .slice D4 p4 d4] 24) = W4 at *
  clear hW
  generalize w4.heap.size = b4 at *
  have hnN : (N : Int) ≤ 9223372036854775807 := by have := HM1.out; have := hNM; omega
  have h1b : blen (1 : Int).natAbs ≤ 64 := blen_small (by decide)
  have HW0 := Lib.hid (show IntVar W4 b4 g4 D4 p4 d4 (z ^ 0) ∧ blen (z ^ 0).natAbs ≤ 64 from by rw [Int.pow_zero]; exact ⟨VW.out, h1b⟩)
  clear VW h1b
  go_loopw [8] (fun i wr => ∃ (k : Nat) (g' : Bool) (D' : Option Addr) (p' d' : Nat), k ≤ N ∧ i = .int .i64 k ∧ Hid (IntVar wr b4 g' D' p' d' (z ^ k)) ∧ Hid (blen (z ^ k).natAbs ≤ 64) ∧ Hid (IntVar wr w.heap.size f A n c z) ∧ Hid (IntVar wr b2 g D p d zp) ∧ Hid (Below w.heap.size w wr)) (fun i _ => N - (intOf i).toNat)
  case atStart => exact ⟨0, g4, D4, p4, d4, Nat.zero_le _, rfl, HW0.out.1, HW0.out.2, VA.out, VP.out, HB.out⟩
  case round =>
    obtain ⟨k, g', D', p', d', hk, rfl, hv, hbk, hva, hvp, hbl⟩ := hrel
    clear HW0 VA VP HB
    have k4 := hv.out.cells.1
    have k5 := hv.out.cells.2
    have k2 := hvp.out.cells.1
    have k3 := hvp.out.cells.2
    have k0 := hva.out.cells.1
    have k1 := hva.out.cells.2
    by_cases hlt : k < N
    · clear k2 k3
      go_wp2_with (fail)
      refine (product_int _ _ (z ^ k) z _ hv.out.2 hva.out.2 (Nat.lt_of_le_of_lt hbk.out (by omega)) (Nat.lt_of_le_of_lt H0.out (by omega))).mono ?_
      rw [← Int.pow_succ]
      rintro e w5 ⟨⟨y, rfl, j1⟩, q5⟩
      obtain ⟨g5, D5, p5, d5, rfl, j1, -, hp5⟩ := j1.look
      have hv5 := hv.out.step q5
      have hva5 := hva.out.step q5
      have hvp5 := hvp.out.step q5
      have HV6 := Lib.hid (hv5.put j1)
      have HVA6 := Lib.hid (hv5.other (g := g5) (D := D5) (m := p5) (d := d5) hva5 (by omega))
      have HVP6 := Lib.hid (hv5.other (g := g5) (D := D5) (m := p5) (d := d5) hvp5 (by omega))
      have HB6 := Lib.hid (((bstep hbl.out q5).setCell (p := ⟨b4, 0, none⟩) (by show w.heap.size ≤ b4; omega) (.bool g5)).setCell (p := ⟨b4, 1, none⟩) (by show w.heap.size ≤ b4; omega) (.slice D5 p5 d5))
      have c0 := hv5.cells.1
      have c1 := hv5.cells.2
      have y0 := hv5.1.free 0
      have y1 := hv5.1.free 1
      have HP5 := Lib.hid hp5
      clear k0 k1 k4 k5 hv hva hvp hbl hv5 hva5 hvp5 q5 j1 hp5
      by_cases hbig : 64 < p5
      · have HE := Lib.hid (pow_end_no HS.out (show k + 1 ≤ N by omega) (by rw [← HP5.out]; exact hbig))
        rw [HPZ.out, HPE.out] at HE
        have k2 := HVP6.out.cells.1
        have k3 := HVP6.out.cells.2
        have hbi : (64 : Int) < p5 := by omega
        clear hbig
        go_wp2_with (fail)
        clear c0 c1 y0 y1 k2 k3
        refine (same_law _ _ ep 7 zp 0 _ HVP6.out.2 (intIs_zero _ _)).mono ?_
        rw [show sameB ep 7 zp 0 = true from by rw [HE.out.1, HE.out.2]; decide]
        rintro e w7 ⟨rfl, q7⟩
        have HB := Lib.hid (bstep HB6.out q7)
        clear q7
        go_wp2_with (fail)
        refine (known_any _ (HT.out.below HB.out)).mono ?_
        rintro e wk ⟨rfl, qk⟩
        have HQ := Lib.hid (bstep HB.out qk)
        clear qk
        go_wp2_with (fail)
        go_ret
        exact ⟨rfl, HQ.out⟩
      · have hbk' := Lib.hid (show blen (z ^ (k + 1)).natAbs ≤ 64 by rw [← HP5.out]; omega)
        have hbi : ¬ (64 : Int) < p5 := by omega
        clear hbig
        go_wp2_with (fail)
        go_roundw
        case rel => exact ⟨k + 1, g5, D5, p5, d5, by omega, by go_num, HV6.out, hbk'.out, HVA6.out, HVP6.out, HB6.out⟩
        case measure => simp [intOf]; omega
    · obtain rfl : k = N := by omega
      have HE := Lib.hid (pow_end_yes HS.out hbk.out)
      rw [HPZ.out, HPE.out] at HE
      clear k0 k1
      go_wp2_with (fail)
      clear k2 k3 k4 k5
      refine (same_law _ _ ep 0 zp (z ^ k) _ hvp.out.2 hv.out.2).mono ?_
      rw [show sameB ep 0 zp (z ^ k) = true from by rw [HE.out.1, HE.out.2]; simp [sameB]]
      rintro e w7 ⟨rfl, q7⟩
      have HB := Lib.hid (bstep hbl.out q7)
      clear q7
      go_wp2_with (fail)
      refine (known_any _ (HT.out.below HB.out)).mono ?_
      rintro e wk ⟨rfl, qk⟩
      have HQ := Lib.hid (bstep HB.out qk)
      clear qk
      go_wp2_with (fail)
      go_ret
      exact ⟨rfl, HQ.out⟩
set_option maxRecDepth 100000 in
set_option maxHeartbeats 4000000 in
theorem powers_zero0 (x : Value) (M : Nat) (w : World) {z : Int} (hz : IntIs w w.heap.size x z) (h0 : blen z.natAbs ≤ 64) (hm1 : M ≤ 9223372036854775807) (hzz : z = 0) (hM : M = 0) (ht : Tens w) :
    Calls Tryd.prog 7 #[x, .int .i64 (M : Int)] w fun e w' => e = .returned (.bool true) ∧ Below w.heap.size w w' := by
  subst hM
  have hx := hz.raw
  obtain ⟨f, hf⟩ : ∃ f, f = decide (z < 0) := ⟨_, rfl⟩
  obtain ⟨n, hn⟩ : ∃ n, n = blen z.natAbs := ⟨_, rfl⟩
  rw [← hf, ← hn] at hx
  have h : n ≤ 80 := by omega
  have HZ := Lib.hid hz
  have H0 := Lib.hid h0
  have HM1 := Lib.hid hm1
  have HF := Lib.hid (And.intro hf hn)
  clear hz hf hn h0 hm1
  obtain ⟨A, c, rfl, hx⟩ := hx.look
  obtain ⟨hv, hr, hb⟩ := hx.var
  have V0 := Lib.hid (hv.alloc (.cells #[.bool f, .slice A n c] 24))
  have R0 := Lib.hid (hr.step (below_alloc _ (.cells #[.bool f, .slice A n c] 24)))
  have HB := Lib.hid (bal hb (.cells #[.bool f, .slice A n c] 24))
  have k0 := hv.cell 0
  have k1 := hv.cell 1
  simp only [List.getElem?_toArray, List.getElem?_cons_succ, List.getElem?_cons_zero] at k0 k1
  have hbg := (boxes2 w 24 24 #[.bool f, .slice A n c] #[.bool f, .slice A n c]).2.1.cell 1
  simp only [List.getElem?_toArray, List.getElem?_cons_succ, List.getElem?_cons_zero] at hbg
  have HG := Lib.hid (big_one _ A n c _ hbg)
  rw [decide_eq_false (by omega)] at HG
  have HT := Lib.hid ht
  have HH := Lib.hid h
  clear hx hv hr hb ht hbg h
  go_enter Tryd.func7, Tryd.ntmps7
  go_wp2_with (fail)
  generalize hW : (w.alloc (.cells #[.bool f, .slice A n c] 24)).alloc (.cells #[.bool f, .slice A n c] 24) = W at *
  clear hW
  refine HG.out.mono ?_
  rintro e w' ⟨rfl, rfl⟩
  clear HG
  have k0 := V0.out.cell 0
  have k1 := V0.out.cell 1
  simp only [List.getElem?_toArray, List.getElem?_cons_succ, List.getElem?_cons_zero] at k0 k1
  go_wp2_with (fail)
  have hz := HZ.out.step HB.out
  refine (power_lit _ z 0 0 _ _ _ hz H0.out rfl (by decide) rfl rfl).mono ?_
  rintro e w2 ⟨⟨y, rfl, j1⟩, q2⟩
  obtain ⟨g, D, p, d, rfl, j1, -, -⟩ := j1.look
  have VP := Lib.hid (IntVar.new j1)
  have qa := bstep q2 (below_alloc w2 (.cells #[.bool g, .slice D p d] 24))
  have VA := Lib.hid (show IntVar _ w.heap.size f A n c z from ⟨V0.out.below qa V0.out.lt, hz.step qa⟩)
  have hne1 : w.heap.size < w2.heap.size := Nat.lt_of_lt_of_le V0.out.lt q2.size
  have HB := Lib.hid (bstep HB.out qa)
  have R0 := Lib.hid (R0.out.step qa)
  have k2 := VP.out.cells.1
  have k3 := VP.out.cells.2
  clear q2 qa j1 k0 k1 hz V0
  have k0 := VA.out.cells.1
  have k1 := VA.out.cells.2
  generalize hpz : powZ z 0 = zp at *
  generalize hpe : powE z 0 = ep at *
  have HPZ := Lib.hid hpz
  have HPE := Lib.hid hpe
  clear hpz hpe
  go_wp2_with (fail)
  generalize hW : w2.alloc (.cells #[.bool g, .slice D p d] 24) = W2 at *
  clear hW k2 k3
  have hlt2 : w2.heap.size < W2.heap.size := VP.out.1.lt
  generalize w2.heap.size = b2 at *
  refine (rvalid_is _ _ R0.out).mono ?_
  rw [show validB f n z.natAbs = true from by rw [HF.out.1, HF.out.2]; exact valid_of H0.out]
  rintro e w3 ⟨rfl, q3⟩
  have VP := Lib.hid (VP.out.step q3)
  have VA := Lib.hid (VA.out.step q3)
  have HB := Lib.hid (bstep HB.out q3)
  have hlt3 : b2 < w3.heap.size := VP.out.1.lt
  clear q3 k0 k1 R0 hlt2
  have k0 := VA.out.cells.1
  have k1 := VA.out.cells.2
  have hb0 : ((n : Int) == 0) = true := by rw [HF.out.2, hzz]; simp [blen_zero]
  have hb1 : ((n : Int) == 1) = false := by rw [HF.out.2, hzz]; simp [blen_zero]
  have hbg := trivial
  go_wp2_with (fail)

  refine (of_lit 1 w3 (by decide)).mono ?_
  rintro e w4 ⟨⟨y, rfl, j1⟩, q4⟩
  obtain ⟨g4, D4, p4, d4, rfl, j1, -, -⟩ := j1.look
  have VW := Lib.hid (IntVar.new j1)
  have qa := bstep q4 (below_alloc w4 (.cells #[.bool g4, .slice D4 p4 d4] 24))
  have VP := Lib.hid (VP.out.step qa)
  have VA := Lib.hid (VA.out.step qa)
  have HB := Lib.hid (bstep HB.out qa)
  have hb4 : b2 < w4.heap.size := Nat.lt_of_lt_of_le hlt3 q4.size
  clear q4 qa j1 k0 k1 hbg
  go_wp2_with (fail)
  generalize hW : w4.alloc (.cells #[.bool g4, .slice D4 p4 d4] 24) = W4 at *
  clear hW
  generalize w4.heap.size = b4 at *
  have HS := Lib.hid (samePow_refl z 0)
  have h1b : blen (1 : Int).natAbs ≤ 64 := blen_small (by decide)
  have HW0 := Lib.hid (show IntVar W4 b4 g4 D4 p4 d4 (z ^ 0) ∧ blen (z ^ 0).natAbs ≤ 64 from by rw [Int.pow_zero]; exact ⟨VW.out, h1b⟩)
  clear VW h1b
  go_loopw [8] (fun i wr => ∃ (k : Nat) (g' : Bool) (D' : Option Addr) (p' d' : Nat), k ≤ 0 ∧ i = .int .i64 k ∧ Hid (IntVar wr b4 g' D' p' d' (z ^ k)) ∧ Hid (blen (z ^ k).natAbs ≤ 64) ∧ Hid (IntVar wr w.heap.size f A n c z) ∧ Hid (IntVar wr b2 g D p d zp) ∧ Hid (Below w.heap.size w wr)) (fun i _ => 0 - (intOf i).toNat)
  case atStart => exact ⟨0, g4, D4, p4, d4, Nat.zero_le _, rfl, HW0.out.1, HW0.out.2, VA.out, VP.out, HB.out⟩
  case round =>
    obtain ⟨k, g', D', p', d', hk, rfl, hv, hbk, hva, hvp, hbl⟩ := hrel
    clear HW0 VA VP HB
    have k4 := hv.out.cells.1
    have k5 := hv.out.cells.2
    have k2 := hvp.out.cells.1
    have k3 := hvp.out.cells.2
    have k0 := hva.out.cells.1
    have k1 := hva.out.cells.2
    obtain rfl : k = 0 := by omega
    have HE := Lib.hid (pow_end_yes HS.out hbk.out)
    rw [HPZ.out, HPE.out] at HE
    clear k0 k1
    go_wp2_with (fail)
    clear k2 k3 k4 k5
    refine (same_law _ _ ep 0 zp (z ^ 0) _ hvp.out.2 hv.out.2).mono ?_
    rw [show sameB ep 0 zp (z ^ 0) = true from by rw [HE.out.1, HE.out.2]; simp [sameB]]
    rintro e w7 ⟨rfl, q7⟩
    have HB := Lib.hid (bstep hbl.out q7)
    clear q7
    go_wp2_with (fail)
    refine (known_any _ (HT.out.below HB.out)).mono ?_
    rintro e wk ⟨rfl, qk⟩
    have HQ := Lib.hid (bstep HB.out qk)
    clear qk
    go_wp2_with (fail)
    go_ret
    exact ⟨rfl, HQ.out⟩
set_option maxRecDepth 100000 in
set_option maxHeartbeats 4000000 in
theorem powers_many (x : Value) (M : Nat) (w : World) {z : Int} (hz : IntIs w w.heap.size x z) (h0 : blen z.natAbs ≤ 64) (hm1 : M ≤ 9223372036854775807) (hzz : 2 ≤ blen z.natAbs) (ht : Tens w) :
    Calls Tryd.prog 7 #[x, .int .i64 (M : Int)] w fun e w' => e = .returned (.bool true) ∧ Below w.heap.size w w' := by
  have hx := hz.raw
  obtain ⟨f, hf⟩ : ∃ f, f = decide (z < 0) := ⟨_, rfl⟩
  obtain ⟨n, hn⟩ : ∃ n, n = blen z.natAbs := ⟨_, rfl⟩
  rw [← hf, ← hn] at hx
  have h : n ≤ 80 := by omega
  have HZ := Lib.hid hz
  have H0 := Lib.hid h0
  have HM1 := Lib.hid hm1
  have HF := Lib.hid (And.intro hf hn)
  have hmd : decide ((M : Int) < 0) = false := by simp
  clear hz hf hn h0 hm1
  obtain ⟨A, c, rfl, hx⟩ := hx.look
  obtain ⟨hv, hr, hb⟩ := hx.var
  have V0 := Lib.hid (hv.alloc (.cells #[.bool f, .slice A n c] 24))
  have R0 := Lib.hid (hr.step (below_alloc _ (.cells #[.bool f, .slice A n c] 24)))
  have HB := Lib.hid (bal hb (.cells #[.bool f, .slice A n c] 24))
  have k0 := hv.cell 0
  have k1 := hv.cell 1
  simp only [List.getElem?_toArray, List.getElem?_cons_succ, List.getElem?_cons_zero] at k0 k1
  have hbg := (boxes2 w 24 24 #[.bool f, .slice A n c] #[.bool f, .slice A n c]).2.1.cell 1
  simp only [List.getElem?_toArray, List.getElem?_cons_succ, List.getElem?_cons_zero] at hbg
  have HG := Lib.hid (big_one _ A n c _ hbg)
  rw [decide_eq_false (by omega)] at HG
  have HT := Lib.hid ht
  have HH := Lib.hid h
  clear hx hv hr hb ht hbg h
  go_enter Tryd.func7, Tryd.ntmps7
  go_wp2_with (fail)
  generalize hW : (w.alloc (.cells #[.bool f, .slice A n c] 24)).alloc (.cells #[.bool f, .slice A n c] 24) = W at *
  clear hW
  refine HG.out.mono ?_
  rintro e w' ⟨rfl, rfl⟩
  clear HG
  have k0 := V0.out.cell 0
  have k1 := V0.out.cell 1
  simp only [List.getElem?_toArray, List.getElem?_cons_succ, List.getElem?_cons_zero] at k0 k1
  go_wp2_with (fail)
  have hz := HZ.out.step HB.out
  refine (power_int _ z M _ hz H0.out HM1.out).mono ?_
  rintro e w2 ⟨⟨y, rfl, j1⟩, q2⟩
  obtain ⟨g, D, p, d, rfl, j1, -, -⟩ := j1.look
  have VP := Lib.hid (IntVar.new j1)
  have qa := bstep q2 (below_alloc w2 (.cells #[.bool g, .slice D p d] 24))
  have VA := Lib.hid (show IntVar _ w.heap.size f A n c z from ⟨V0.out.below qa V0.out.lt, hz.step qa⟩)
  have hne1 : w.heap.size < w2.heap.size := Nat.lt_of_lt_of_le V0.out.lt q2.size
  have HB := Lib.hid (bstep HB.out qa)
  have R0 := Lib.hid (R0.out.step qa)
  have k2 := VP.out.cells.1
  have k3 := VP.out.cells.2
  clear q2 qa j1 k0 k1 hz V0
  have k0 := VA.out.cells.1
  have k1 := VA.out.cells.2
  generalize hpz : powZ z M = zp at *
  generalize hpe : powE z M = ep at *
  have HPZ := Lib.hid hpz
  have HPE := Lib.hid hpe
  clear hpz hpe
  go_wp2_with (fail)
  generalize hW : w2.alloc (.cells #[.bool g, .slice D p d] 24) = W2 at *
  clear hW k2 k3
  have hlt2 : w2.heap.size < W2.heap.size := VP.out.1.lt
  generalize w2.heap.size = b2 at *
  refine (rvalid_is _ _ R0.out).mono ?_
  rw [show validB f n z.natAbs = true from by rw [HF.out.1, HF.out.2]; exact valid_of H0.out]
  rintro e w3 ⟨rfl, q3⟩
  have VP := Lib.hid (VP.out.step q3)
  have VA := Lib.hid (VA.out.step q3)
  have HB := Lib.hid (bstep HB.out q3)
  have hlt3 : b2 < w3.heap.size := VP.out.1.lt
  clear q3 k0 k1 R0 hlt2
  have k0 := VA.out.cells.1
  have k1 := VA.out.cells.2
  have hb0 : ((n : Int) == 0) = false := by have := HF.out.2; have := blen_pos (v := z.natAbs) (by rcases Nat.eq_zero_or_pos z.natAbs with h0 | h0; (rw [h0, blen_zero] at hzz; omega); exact h0); simp; omega
  have hb1 : ((n : Int) == 1) = false := by have := HF.out.2; simp; omega
  have hbg := trivial
  go_wp2_with (fail)
  obtain ⟨N, hN⟩ : ∃ N : Nat, N = M := ⟨_, rfl⟩
  rw [← hN]
  have hNM : N ≤ M := by omega
  have HS := Lib.hid (show SamePow z M N from hN ▸ samePow_refl z N)
  clear hN

  refine (of_lit 1 w3 (by decide)).mono ?_
  rintro e w4 ⟨⟨y, rfl, j1⟩, q4⟩
  obtain ⟨g4, D4, p4, d4, rfl, j1, -, -⟩ := j1.look
  have VW := Lib.hid (IntVar.new j1)
  have qa := bstep q4 (below_alloc w4 (.cells #[.bool g4, .slice D4 p4 d4] 24))
  have VP := Lib.hid (VP.out.step qa)
  have VA := Lib.hid (VA.out.step qa)
  have HB := Lib.hid (bstep HB.out qa)
  have hb4 : b2 < w4.heap.size := Nat.lt_of_lt_of_le hlt3 q4.size
  clear q4 qa j1 k0 k1 hbg
  go_wp2_with (fail)
  generalize hW : w4.alloc (.cells #[.bool g4, .slice D4 p4 d4] 24) = W4 at *
  clear hW
  generalize w4.heap.size = b4 at *
  have hnN : (N : Int) ≤ 9223372036854775807 := by have := HM1.out; have := hNM; omega
  have h1b : blen (1 : Int).natAbs ≤ 64 := blen_small (by decide)
  have HW0 := Lib.hid (show IntVar W4 b4 g4 D4 p4 d4 (z ^ 0) ∧ blen (z ^ 0).natAbs ≤ 64 from by rw [Int.pow_zero]; exact ⟨VW.out, h1b⟩)
  clear VW h1b
  go_loopw [8] (fun i wr => ∃ (k : Nat) (g' : Bool) (D' : Option Addr) (p' d' : Nat), k ≤ N ∧ i = .int .i64 k ∧ Hid (IntVar wr b4 g' D' p' d' (z ^ k)) ∧ Hid (blen (z ^ k).natAbs ≤ 64) ∧ Hid (IntVar wr w.heap.size f A n c z) ∧ Hid (IntVar wr b2 g D p d zp) ∧ Hid (Below w.heap.size w wr)) (fun i _ => N - (intOf i).toNat)
  case atStart => exact ⟨0, g4, D4, p4, d4, Nat.zero_le _, rfl, HW0.out.1, HW0.out.2, VA.out, VP.out, HB.out⟩
  case round =>
    obtain ⟨k, g', D', p', d', hk, rfl, hv, hbk, hva, hvp, hbl⟩ := hrel
    clear HW0 VA VP HB
    have k4 := hv.out.cells.1
    have k5 := hv.out.cells.2
    have k2 := hvp.out.cells.1
    have k3 := hvp.out.cells.2
    have k0 := hva.out.cells.1
    have k1 := hva.out.cells.2
    by_cases hlt : k < N
    · clear k2 k3
      go_wp2_with (fail)
      refine (product_int _ _ (z ^ k) z _ hv.out.2 hva.out.2 (Nat.lt_of_le_of_lt hbk.out (by omega)) (Nat.lt_of_le_of_lt H0.out (by omega))).mono ?_
      rw [← Int.pow_succ]
      rintro e w5 ⟨⟨y, rfl, j1⟩, q5⟩
      obtain ⟨g5, D5, p5, d5, rfl, j1, -, hp5⟩ := j1.look
      have hv5 := hv.out.step q5
      have hva5 := hva.out.step q5
      have hvp5 := hvp.out.step q5
      have HV6 := Lib.hid (hv5.put j1)
      have HVA6 := Lib.hid (hv5.other (g := g5) (D := D5) (m := p5) (d := d5) hva5 (by omega))
      have HVP6 := Lib.hid (hv5.other (g := g5) (D := D5) (m := p5) (d := d5) hvp5 (by omega))
      have HB6 := Lib.hid (((bstep hbl.out q5).setCell (p := ⟨b4, 0, none⟩) (by show w.heap.size ≤ b4; omega) (.bool g5)).setCell (p := ⟨b4, 1, none⟩) (by show w.heap.size ≤ b4; omega) (.slice D5 p5 d5))
      have c0 := hv5.cells.1
      have c1 := hv5.cells.2
      have y0 := hv5.1.free 0
      have y1 := hv5.1.free 1
      have HP5 := Lib.hid hp5
      clear k0 k1 k4 k5 hv hva hvp hbl hv5 hva5 hvp5 q5 j1 hp5
      by_cases hbig : 64 < p5
      · have HE := Lib.hid (pow_end_no HS.out (show k + 1 ≤ N by omega) (by rw [← HP5.out]; exact hbig))
        rw [HPZ.out, HPE.out] at HE
        have k2 := HVP6.out.cells.1
        have k3 := HVP6.out.cells.2
        have hbi : (64 : Int) < p5 := by omega
        clear hbig
        go_wp2_with (fail)
        clear c0 c1 y0 y1 k2 k3
        refine (same_law _ _ ep 7 zp 0 _ HVP6.out.2 (intIs_zero _ _)).mono ?_
        rw [show sameB ep 7 zp 0 = true from by rw [HE.out.1, HE.out.2]; decide]
        rintro e w7 ⟨rfl, q7⟩
        have HB := Lib.hid (bstep HB6.out q7)
        clear q7
        go_wp2_with (fail)
        refine (known_any _ (HT.out.below HB.out)).mono ?_
        rintro e wk ⟨rfl, qk⟩
        have HQ := Lib.hid (bstep HB.out qk)
        clear qk
        go_wp2_with (fail)
        go_ret
        exact ⟨rfl, HQ.out⟩
      · have hbk' := Lib.hid (show blen (z ^ (k + 1)).natAbs ≤ 64 by rw [← HP5.out]; omega)
        have hbi : ¬ (64 : Int) < p5 := by omega
        clear hbig
        go_wp2_with (fail)
        go_roundw
        case rel => exact ⟨k + 1, g5, D5, p5, d5, by omega, by go_num, HV6.out, hbk'.out, HVA6.out, HVP6.out, HB6.out⟩
        case measure => simp [intOf]; omega
    · obtain rfl : k = N := by omega
      have HE := Lib.hid (pow_end_yes HS.out hbk.out)
      rw [HPZ.out, HPE.out] at HE
      clear k0 k1
      go_wp2_with (fail)
      clear k2 k3 k4 k5
      refine (same_law _ _ ep 0 zp (z ^ k) _ hvp.out.2 hv.out.2).mono ?_
      rw [show sameB ep 0 zp (z ^ k) = true from by rw [HE.out.1, HE.out.2]; simp [sameB]]
      rintro e w7 ⟨rfl, q7⟩
      have HB := Lib.hid (bstep hbl.out q7)
      clear q7
      go_wp2_with (fail)
      refine (known_any _ (HT.out.below HB.out)).mono ?_
      rintro e wk ⟨rfl, qk⟩
      have HQ := Lib.hid (bstep HB.out qk)
      clear qk
      go_wp2_with (fail)
      go_ret
      exact ⟨rfl, HQ.out⟩
set_option maxRecDepth 100000 in
set_option maxHeartbeats 4000000 in
theorem powers_one (x : Value) (M : Nat) (w : World) {z : Int} (hz : IntIs w w.heap.size x z) (h0 : blen z.natAbs ≤ 64) (hm1 : M ≤ 9223372036854775807) (hzz : z.natAbs = 1) (hM : 1 < M) (ht : Tens w) :
    Calls Tryd.prog 7 #[x, .int .i64 (M : Int)] w fun e w' => e = .returned (.bool true) ∧ Below w.heap.size w w' := by
  have hx := hz.raw
  obtain ⟨f, hf⟩ : ∃ f, f = decide (z < 0) := ⟨_, rfl⟩
  obtain ⟨n, hn⟩ : ∃ n, n = blen z.natAbs := ⟨_, rfl⟩
  rw [← hf, ← hn] at hx
  have h : n ≤ 80 := by omega
  have HZ := Lib.hid hz
  have H0 := Lib.hid h0
  have HM1 := Lib.hid hm1
  have HF := Lib.hid (And.intro hf hn)
  have hmd : decide ((M : Int) < 0) = false := by simp
  clear hz hf hn h0 hm1
  obtain ⟨A, c, rfl, hx⟩ := hx.look
  obtain ⟨hv, hr, hb⟩ := hx.var
  have V0 := Lib.hid (hv.alloc (.cells #[.bool f, .slice A n c] 24))
  have R0 := Lib.hid (hr.step (below_alloc _ (.cells #[.bool f, .slice A n c] 24)))
  have HB := Lib.hid (bal hb (.cells #[.bool f, .slice A n c] 24))
  have k0 := hv.cell 0
  have k1 := hv.cell 1
  simp only [List.getElem?_toArray, List.getElem?_cons_succ, List.getElem?_cons_zero] at k0 k1
  have hbg := (boxes2 w 24 24 #[.bool f, .slice A n c] #[.bool f, .slice A n c]).2.1.cell 1
  simp only [List.getElem?_toArray, List.getElem?_cons_succ, List.getElem?_cons_zero] at hbg
  have HG := Lib.hid (big_one _ A n c _ hbg)
  rw [decide_eq_false (by omega)] at HG
  have HT := Lib.hid ht
  have HH := Lib.hid h
  clear hx hv hr hb ht hbg h
  go_enter Tryd.func7, Tryd.ntmps7
  go_wp2_with (fail)
  generalize hW : (w.alloc (.cells #[.bool f, .slice A n c] 24)).alloc (.cells #[.bool f, .slice A n c] 24) = W at *
  clear hW
  refine HG.out.mono ?_
  rintro e w' ⟨rfl, rfl⟩
  clear HG
  have k0 := V0.out.cell 0
  have k1 := V0.out.cell 1
  simp only [List.getElem?_toArray, List.getElem?_cons_succ, List.getElem?_cons_zero] at k0 k1
  go_wp2_with (fail)
  have hz := HZ.out.step HB.out
  refine (power_int _ z M _ hz H0.out HM1.out).mono ?_
  rintro e w2 ⟨⟨y, rfl, j1⟩, q2⟩
  obtain ⟨g, D, p, d, rfl, j1, -, -⟩ := j1.look
  have VP := Lib.hid (IntVar.new j1)
  have qa := bstep q2 (below_alloc w2 (.cells #[.bool g, .slice D p d] 24))
  have VA := Lib.hid (show IntVar _ w.heap.size f A n c z from ⟨V0.out.below qa V0.out.lt, hz.step qa⟩)
  have hne1 : w.heap.size < w2.heap.size := Nat.lt_of_lt_of_le V0.out.lt q2.size
  have HB := Lib.hid (bstep HB.out qa)
  have R0 := Lib.hid (R0.out.step qa)
  have k2 := VP.out.cells.1
  have k3 := VP.out.cells.2
  clear q2 qa j1 k0 k1 hz V0
  have k0 := VA.out.cells.1
  have k1 := VA.out.cells.2
  generalize hpz : powZ z M = zp at *
  generalize hpe : powE z M = ep at *
  have HPZ := Lib.hid hpz
  have HPE := Lib.hid hpe
  clear hpz hpe
  go_wp2_with (fail)
  generalize hW : w2.alloc (.cells #[.bool g, .slice D p d] 24) = W2 at *
  clear hW k2 k3
  have hlt2 : w2.heap.size < W2.heap.size := VP.out.1.lt
  generalize w2.heap.size = b2 at *
  refine (rvalid_is _ _ R0.out).mono ?_
  rw [show validB f n z.natAbs = true from by rw [HF.out.1, HF.out.2]; exact valid_of H0.out]
  rintro e w3 ⟨rfl, q3⟩
  have VP := Lib.hid (VP.out.step q3)
  have VA := Lib.hid (VA.out.step q3)
  have HB := Lib.hid (bstep HB.out q3)
  have hlt3 : b2 < w3.heap.size := VP.out.1.lt
  clear q3 k0 k1 R0 hlt2
  have k0 := VA.out.cells.1
  have k1 := VA.out.cells.2
  have hbl1 : blen z.natAbs = 1 := by rw [hzz]; decide
  have hb0 : ((n : Int) == 0) = false := by rw [HF.out.2, hbl1]; decide
  have hb1 : ((n : Int) == 1) = true := by rw [HF.out.2, hbl1]; decide
  have hM1 : decide ((1 : Int) < M) = true := by simp; omega
  obtain ⟨b, o, hA, hbo, hcd⟩ := (VA.out.2.open_).2.2.2.2 (by simp only [be_len]; omega)
  subst hA
  have hd0 := hcd 0 (by simp only [be_len]; omega)
  rw [be_get _ _ _ (by omega), show byt z.natAbs (blen z.natAbs - 1 - 0) = 1 from by rw [hbl1, hzz]; decide] at hd0
  simp only [Nat.add_zero] at hd0
  have hn1p : (0 : Int) < n := by have := HF.out.2; omega
  clear hcd
  have hbg := trivial
  go_wp2_with (fail)
  obtain ⟨N, hN⟩ : ∃ N : Nat, (N : Int) = 2 - (M : Int) % 2 := ⟨2 - M % 2, by omega⟩
  rw [← hN]
  have hN' : N = 2 - M % 2 := by omega
  have hNM : N ≤ 2 := by omega
  have HS := Lib.hid (show SamePow z M N from hN' ▸ (samePow_one hzz))
  clear hN hN'

  refine (of_lit 1 w3 (by decide)).mono ?_
  rintro e w4 ⟨⟨y, rfl, j1⟩, q4⟩
  obtain ⟨g4, D4, p4, d4, rfl, j1, -, -⟩ := j1.look
  have VW := Lib.hid (IntVar.new j1)
  have qa := bstep q4 (below_alloc w4 (.cells #[.bool g4, .slice D4 p4 d4] 24))
  have VP := Lib.hid (VP.out.step qa)
  have VA := Lib.hid (VA.out.step qa)
  have HB := Lib.hid (bstep HB.out qa)
  have hb4 : b2 < w4.heap.size := Nat.lt_of_lt_of_le hlt3 q4.size
  clear q4 qa j1 k0 k1 hbg
  go_wp2_with (fail)
  generalize hW : w4.alloc (.cells #[.bool g4, .slice D4 p4 d4] 24) = W4 at *
  clear hW
  generalize w4.heap.size = b4 at *
  have hnN : (N : Int) ≤ 9223372036854775807 := by have := HM1.out; have := hNM; omega
  have h1b : blen (1 : Int).natAbs ≤ 64 := blen_small (by decide)
  have HW0 := Lib.hid (show IntVar W4 b4 g4 D4 p4 d4 (z ^ 0) ∧ blen (z ^ 0).natAbs ≤ 64 from by rw [Int.pow_zero]; exact ⟨VW.out, h1b⟩)
  clear VW h1b
  go_loopw [8] (fun i wr => ∃ (k : Nat) (g' : Bool) (D' : Option Addr) (p' d' : Nat), k ≤ N ∧ i = .int .i64 k ∧ Hid (IntVar wr b4 g' D' p' d' (z ^ k)) ∧ Hid (blen (z ^ k).natAbs ≤ 64) ∧ Hid (IntVar wr w.heap.size f (some ⟨b, o, none⟩) n c z) ∧ Hid (IntVar wr b2 g D p d zp) ∧ Hid (Below w.heap.size w wr)) (fun i _ => N - (intOf i).toNat)
  case atStart => exact ⟨0, g4, D4, p4, d4, Nat.zero_le _, rfl, HW0.out.1, HW0.out.2, VA.out, VP.out, HB.out⟩
  case round =>
    obtain ⟨k, g', D', p', d', hk, rfl, hv, hbk, hva, hvp, hbl⟩ := hrel
    clear HW0 VA VP HB
    have k4 := hv.out.cells.1
    have k5 := hv.out.cells.2
    have k2 := hvp.out.cells.1
    have k3 := hvp.out.cells.2
    have k0 := hva.out.cells.1
    have k1 := hva.out.cells.2
    by_cases hlt : k < N
    · clear k2 k3
      go_wp2_with (fail)
      refine (product_int _ _ (z ^ k) z _ hv.out.2 hva.out.2 (Nat.lt_of_le_of_lt hbk.out (by omega)) (Nat.lt_of_le_of_lt H0.out (by omega))).mono ?_
      rw [← Int.pow_succ]
      rintro e w5 ⟨⟨y, rfl, j1⟩, q5⟩
      obtain ⟨g5, D5, p5, d5, rfl, j1, -, hp5⟩ := j1.look
      have hv5 := hv.out.step q5
      have hva5 := hva.out.step q5
      have hvp5 := hvp.out.step q5
      have HV6 := Lib.hid (hv5.put j1)
      have HVA6 := Lib.hid (hv5.other (g := g5) (D := D5) (m := p5) (d := d5) hva5 (by omega))
      have HVP6 := Lib.hid (hv5.other (g := g5) (D := D5) (m := p5) (d := d5) hvp5 (by omega))
      have HB6 := Lib.hid (((bstep hbl.out q5).setCell (p := ⟨b4, 0, none⟩) (by show w.heap.size ≤ b4; omega) (.bool g5)).setCell (p := ⟨b4, 1, none⟩) (by show w.heap.size ≤ b4; omega) (.slice D5 p5 d5))
      have c0 := hv5.cells.1
      have c1 := hv5.cells.2
      have y0 := hv5.1.free 0
      have y1 := hv5.1.free 1
      have HP5 := Lib.hid hp5
      clear k0 k1 k4 k5 hv hva hvp hbl hv5 hva5 hvp5 q5 j1 hp5
      by_cases hbig : 64 < p5
      · have HE := Lib.hid (pow_end_no HS.out (show k + 1 ≤ N by omega) (by rw [← HP5.out]; exact hbig))
        rw [HPZ.out, HPE.out] at HE
        have k2 := HVP6.out.cells.1
        have k3 := HVP6.out.cells.2
        have hbi : (64 : Int) < p5 := by omega
        clear hbig
        go_wp2_with (fail)
        clear c0 c1 y0 y1 k2 k3
        refine (same_law _ _ ep 7 zp 0 _ HVP6.out.2 (intIs_zero _ _)).mono ?_
        rw [show sameB ep 7 zp 0 = true from by rw [HE.out.1, HE.out.2]; decide]
        rintro e w7 ⟨rfl, q7⟩
        have HB := Lib.hid (bstep HB6.out q7)
        clear q7
        go_wp2_with (fail)
        refine (known_any _ (HT.out.below HB.out)).mono ?_
        rintro e wk ⟨rfl, qk⟩
        have HQ := Lib.hid (bstep HB.out qk)
        clear qk
        go_wp2_with (fail)
        go_ret
        exact ⟨rfl, HQ.out⟩
      · have hbk' := Lib.hid (show blen (z ^ (k + 1)).natAbs ≤ 64 by rw [← HP5.out]; omega)
        have hbi : ¬ (64 : Int) < p5 := by omega
        clear hbig
        go_wp2_with (fail)
        go_roundw
        case rel => exact ⟨k + 1, g5, D5, p5, d5, by omega, by go_num, HV6.out, hbk'.out, HVA6.out, HVP6.out, HB6.out⟩
        case measure => simp [intOf]; omega
    · obtain rfl : k = N := by omega
      have HE := Lib.hid (pow_end_yes HS.out hbk.out)
      rw [HPZ.out, HPE.out] at HE
      clear k0 k1
      go_wp2_with (fail)
      clear k2 k3 k4 k5
      refine (same_law _ _ ep 0 zp (z ^ k) _ hvp.out.2 hv.out.2).mono ?_
      rw [show sameB ep 0 zp (z ^ k) = true from by rw [HE.out.1, HE.out.2]; simp [sameB]]
      rintro e w7 ⟨rfl, q7⟩
      have HB := Lib.hid (bstep hbl.out q7)
      clear q7
      go_wp2_with (fail)
      refine (known_any _ (HT.out.below HB.out)).mono ?_
      rintro e wk ⟨rfl, qk⟩
      have HQ := Lib.hid (bstep HB.out qk)
      clear qk
      go_wp2_with (fail)
      go_ret
      exact ⟨rfl, HQ.out⟩
set_option maxRecDepth 100000 in
set_option maxHeartbeats 4000000 in
theorem powers_one0 (x : Value) (M : Nat) (w : World) {z : Int} (hz : IntIs w w.heap.size x z) (h0 : blen z.natAbs ≤ 64) (hm1 : M ≤ 9223372036854775807) (hzz : z.natAbs = 1) (hM : M ≤ 1) (ht : Tens w) :
    Calls Tryd.prog 7 #[x, .int .i64 (M : Int)] w fun e w' => e = .returned (.bool true) ∧ Below w.heap.size w w' := by
  have hx := hz.raw
  obtain ⟨f, hf⟩ : ∃ f, f = decide (z < 0) := ⟨_, rfl⟩
  obtain ⟨n, hn⟩ : ∃ n, n = blen z.natAbs := ⟨_, rfl⟩
  rw [← hf, ← hn] at hx
  have h : n ≤ 80 := by omega
  have HZ := Lib.hid hz
  have H0 := Lib.hid h0
  have HM1 := Lib.hid hm1
  have HF := Lib.hid (And.intro hf hn)
  have hmd : decide ((M : Int) < 0) = false := by simp
  clear hz hf hn h0 hm1
  obtain ⟨A, c, rfl, hx⟩ := hx.look
  obtain ⟨hv, hr, hb⟩ := hx.var
  have V0 := Lib.hid (hv.alloc (.cells #[.bool f, .slice A n c] 24))
  have R0 := Lib.hid (hr.step (below_alloc _ (.cells #[.bool f, .slice A n c] 24)))
  have HB := Lib.hid (bal hb (.cells #[.bool f, .slice A n c] 24))
  have k0 := hv.cell 0
  have k1 := hv.cell 1
  simp only [List.getElem?_toArray, List.getElem?_cons_succ, List.getElem?_cons_zero] at k0 k1
  have hbg := (boxes2 w 24 24 #[.bool f, .slice A n c] #[.bool f, .slice A n c]).2.1.cell 1
  simp only [List.getElem?_toArray, List.getElem?_cons_succ, List.getElem?_cons_zero] at hbg
  have HG := Lib.hid (big_one _ A n c _ hbg)
  rw [decide_eq_false (by omega)] at HG
  have HT := Lib.hid ht
  have HH := Lib.hid h
  clear hx hv hr hb ht hbg h
  go_enter Tryd.func7, Tryd.ntmps7
  go_wp2_with (fail)
  generalize hW : (w.alloc (.cells #[.bool f, .slice A n c] 24)).alloc (.cells #[.bool f, .slice A n c] 24) = W at *
  clear hW
  refine HG.out.mono ?_
  rintro e w' ⟨rfl, rfl⟩
  clear HG
  have k0 := V0.out.cell 0
  have k1 := V0.out.cell 1
  simp only [List.getElem?_toArray, List.getElem?_cons_succ, List.getElem?_cons_zero] at k0 k1
  go_wp2_with (fail)
  have hz := HZ.out.step HB.out
  refine (power_int _ z M _ hz H0.out HM1.out).mono ?_
  rintro e w2 ⟨⟨y, rfl, j1⟩, q2⟩
  obtain ⟨g, D, p, d, rfl, j1, -, -⟩ := j1.look
  have VP := Lib.hid (IntVar.new j1)
  have qa := bstep q2 (below_alloc w2 (.cells #[.bool g, .slice D p d] 24))
  have VA := Lib.hid (show IntVar _ w.heap.size f A n c z from ⟨V0.out.below qa V0.out.lt, hz.step qa⟩)
  have hne1 : w.heap.size < w2.heap.size := Nat.lt_of_lt_of_le V0.out.lt q2.size
  have HB := Lib.hid (bstep HB.out qa)
  have R0 := Lib.hid (R0.out.step qa)
  have k2 := VP.out.cells.1
  have k3 := VP.out.cells.2
  clear q2 qa j1 k0 k1 hz V0
  have k0 := VA.out.cells.1
  have k1 := VA.out.cells.2
  generalize hpz : powZ z M = zp at *
  generalize hpe : powE z M = ep at *
  have HPZ := Lib.hid hpz
  have HPE := Lib.hid hpe
  clear hpz hpe
  go_wp2_with (fail)
  generalize hW : w2.alloc (.cells #[.bool g, .slice D p d] 24) = W2 at *
  clear hW k2 k3
  have hlt2 : w2.heap.size < W2.heap.size := VP.out.1.lt
  generalize w2.heap.size = b2 at *
  refine (rvalid_is _ _ R0.out).mono ?_
  rw [show validB f n z.natAbs = true from by rw [HF.out.1, HF.out.2]; exact valid_of H0.out]
  rintro e w3 ⟨rfl, q3⟩
  have VP := Lib.hid (VP.out.step q3)
  have VA := Lib.hid (VA.out.step q3)
  have HB := Lib.hid (bstep HB.out q3)
  have hlt3 : b2 < w3.heap.size := VP.out.1.lt
  clear q3 k0 k1 R0 hlt2
  have k0 := VA.out.cells.1
  have k1 := VA.out.cells.2
  have hbl1 : blen z.natAbs = 1 := by rw [hzz]; decide
  have hb0 : ((n : Int) == 0) = false := by rw [HF.out.2, hbl1]; decide
  have hb1 : ((n : Int) == 1) = true := by rw [HF.out.2, hbl1]; decide
  have hM1 : decide ((1 : Int) < M) = false := by simp; omega
  obtain ⟨b, o, hA, hbo, hcd⟩ := (VA.out.2.open_).2.2.2.2 (by simp only [be_len]; omega)
  subst hA
  have hd0 := hcd 0 (by simp only [be_len]; omega)
  rw [be_get _ _ _ (by omega), show byt z.natAbs (blen z.natAbs - 1 - 0) = 1 from by rw [hbl1, hzz]; decide] at hd0
  simp only [Nat.add_zero] at hd0
  have hn1p : (0 : Int) < n := by have := HF.out.2; omega
  clear hcd
  have hbg := trivial
  go_wp2_with (fail)
  obtain ⟨N, hN⟩ : ∃ N : Nat, N = M := ⟨_, rfl⟩
  rw [← hN]
  have hNM : N ≤ M := by omega
  have HS := Lib.hid (show SamePow z M N from hN ▸ samePow_refl z N)
  clear hN

  refine (of_lit 1 w3 (by decide)).mono ?_
  rintro e w4 ⟨⟨y, rfl, j1⟩, q4⟩
  obtain ⟨g4, D4, p4, d4, rfl, j1, -, -⟩ := j1.look
  have VW := Lib.hid (IntVar.new j1)
  have qa := bstep q4 (below_alloc w4 (.cells #[.bool g4, .slice D4 p4 d4] 24))
  have VP := Lib.hid (VP.out.step qa)
  have VA := Lib.hid (VA.out.step qa)
  have HB := Lib.hid (bstep HB.out qa)
  have hb4 : b2 < w4.heap.size := Nat.lt_of_lt_of_le hlt3 q4.size
  clear q4 qa j1 k0 k1 hbg
  go_wp2_with (fail)
  generalize hW : w4.alloc (.cells #[.bool g4, .slice D4 p4 d4] 24) = W4 at *
  clear hW
  generalize w4.heap.size = b4 at *
  have hnN : (N : Int) ≤ 9223372036854775807 := by have := HM1.out; have := hNM; omega
  have h1b : blen (1 : Int).natAbs ≤ 64 := blen_small (by decide)
  have HW0 := Lib.hid (show IntVar W4 b4 g4 D4 p4 d4 (z ^ 0) ∧ blen (z ^ 0).natAbs ≤ 64 from by rw [Int.pow_zero]; exact ⟨VW.out, h1b⟩)
  clear VW h1b
  go_loopw [8] (fun i wr => ∃ (k : Nat) (g' : Bool) (D' : Option Addr) (p' d' : Nat), k ≤ N ∧ i = .int .i64 k ∧ Hid (IntVar wr b4 g' D' p' d' (z ^ k)) ∧ Hid (blen (z ^ k).natAbs ≤ 64) ∧ Hid (IntVar wr w.heap.size f (some ⟨b, o, none⟩) n c z) ∧ Hid (IntVar wr b2 g D p d zp) ∧ Hid (Below w.heap.size w wr)) (fun i _ => N - (intOf i).toNat)
  case atStart => exact ⟨0, g4, D4, p4, d4, Nat.zero_le _, rfl, HW0.out.1, HW0.out.2, VA.out, VP.out, HB.out⟩
  case round =>
    obtain ⟨k, g', D', p', d', hk, rfl, hv, hbk, hva, hvp, hbl⟩ := hrel
    clear HW0 VA VP HB
    have k4 := hv.out.cells.1
    have k5 := hv.out.cells.2
    have k2 := hvp.out.cells.1
    have k3 := hvp.out.cells.2
    have k0 := hva.out.cells.1
    have k1 := hva.out.cells.2
    by_cases hlt : k < N
    · clear k2 k3
      go_wp2_with (fail)
      refine (product_int _ _ (z ^ k) z _ hv.out.2 hva.out.2 (Nat.lt_of_le_of_lt hbk.out (by omega)) (Nat.lt_of_le_of_lt H0.out (by omega))).mono ?_
      rw [← Int.pow_succ]
      rintro e w5 ⟨⟨y, rfl, j1⟩, q5⟩
      obtain ⟨g5, D5, p5, d5, rfl, j1, -, hp5⟩ := j1.look
      have hv5 := hv.out.step q5
      have hva5 := hva.out.step q5
      have hvp5 := hvp.out.step q5
      have HV6 := Lib.hid (hv5.put j1)
      have HVA6 := Lib.hid (hv5.other (g := g5) (D := D5) (m := p5) (d := d5) hva5 (by omega))
      have HVP6 := Lib.hid (hv5.other (g := g5) (D := D5) (m := p5) (d := d5) hvp5 (by omega))
      have HB6 := Lib.hid (((bstep hbl.out q5).setCell (p := ⟨b4, 0, none⟩) (by show w.heap.size ≤ b4; omega) (.bool g5)).setCell (p := ⟨b4, 1, none⟩) (by show w.heap.size ≤ b4; omega) (.slice D5 p5 d5))
      have c0 := hv5.cells.1
      have c1 := hv5.cells.2
      have y0 := hv5.1.free 0
      have y1 := hv5.1.free 1
      have HP5 := Lib.hid hp5
      clear k0 k1 k4 k5 hv hva hvp hbl hv5 hva5 hvp5 q5 j1 hp5
      by_cases hbig : 64 < p5
      · have HE := Lib.hid (pow_end_no HS.out (show k + 1 ≤ N by omega) (by rw [← HP5.out]; exact hbig))
        rw [HPZ.out, HPE.out] at HE
        have k2 := HVP6.out.cells.1
        have k3 := HVP6.out.cells.2
        have hbi : (64 : Int) < p5 := by omega
        clear hbig
        go_wp2_with (fail)
        clear c0 c1 y0 y1 k2 k3
        refine (same_law _ _ ep 7 zp 0 _ HVP6.out.2 (intIs_zero _ _)).mono ?_
        rw [show sameB ep 7 zp 0 = true from by rw [HE.out.1, HE.out.2]; decide]
        rintro e w7 ⟨rfl, q7⟩
        have HB := Lib.hid (bstep HB6.out q7)
        clear q7
        go_wp2_with (fail)
        refine (known_any _ (HT.out.below HB.out)).mono ?_
        rintro e wk ⟨rfl, qk⟩
        have HQ := Lib.hid (bstep HB.out qk)
        clear qk
        go_wp2_with (fail)
        go_ret
        exact ⟨rfl, HQ.out⟩
      · have hbk' := Lib.hid (show blen (z ^ (k + 1)).natAbs ≤ 64 by rw [← HP5.out]; omega)
        have hbi : ¬ (64 : Int) < p5 := by omega
        clear hbig
        go_wp2_with (fail)
        go_roundw
        case rel => exact ⟨k + 1, g5, D5, p5, d5, by omega, by go_num, HV6.out, hbk'.out, HVA6.out, HVP6.out, HB6.out⟩
        case measure => simp [intOf]; omega
    · obtain rfl : k = N := by omega
      have HE := Lib.hid (pow_end_yes HS.out hbk.out)
      rw [HPZ.out, HPE.out] at HE
      clear k0 k1
      go_wp2_with (fail)
      clear k2 k3 k4 k5
      refine (same_law _ _ ep 0 zp (z ^ k) _ hvp.out.2 hv.out.2).mono ?_
      rw [show sameB ep 0 zp (z ^ k) = true from by rw [HE.out.1, HE.out.2]; simp [sameB]]
      rintro e w7 ⟨rfl, q7⟩
      have HB := Lib.hid (bstep hbl.out q7)
      clear q7
      go_wp2_with (fail)
      refine (known_any _ (HT.out.below HB.out)).mono ?_
      rintro e wk ⟨rfl, qk⟩
      have HQ := Lib.hid (bstep HB.out qk)
      clear qk
      go_wp2_with (fail)
      go_ret
      exact ⟨rfl, HQ.out⟩
set_option maxRecDepth 100000 in
set_option maxHeartbeats 4000000 in
theorem powers_digit (x : Value) (M : Nat) (w : World) {z : Int} (hz : IntIs w w.heap.size x z) (h0 : blen z.natAbs ≤ 64) (hm1 : M ≤ 9223372036854775807) (hzz : 2 ≤ z.natAbs) (hbl1 : blen z.natAbs = 1) (ht : Tens w) :
    Calls Tryd.prog 7 #[x, .int .i64 (M : Int)] w fun e w' => e = .returned (.bool true) ∧ Below w.heap.size w w' := by
  have hx := hz.raw
  obtain ⟨f, hf⟩ : ∃ f, f = decide (z < 0) := ⟨_, rfl⟩
  obtain ⟨n, hn⟩ : ∃ n, n = blen z.natAbs := ⟨_, rfl⟩
  rw [← hf, ← hn] at hx
  have h : n ≤ 80 := by omega
  have HZ := Lib.hid hz
  have H0 := Lib.hid h0
  have HM1 := Lib.hid hm1
  have HF := Lib.hid (And.intro hf hn)
  have hmd : decide ((M : Int) < 0) = false := by simp
  clear hz hf hn h0 hm1
  obtain ⟨A, c, rfl, hx⟩ := hx.look
  obtain ⟨hv, hr, hb⟩ := hx.var
  have V0 := Lib.hid (hv.alloc (.cells #[.bool f, .slice A n c] 24))
  have R0 := Lib.hid (hr.step (below_alloc _ (.cells #[.bool f, .slice A n c] 24)))
  have HB := Lib.hid (bal hb (.cells #[.bool f, .slice A n c] 24))
  have k0 := hv.cell 0
  have k1 := hv.cell 1
  simp only [List.getElem?_toArray, List.getElem?_cons_succ, List.getElem?_cons_zero] at k0 k1
  have hbg := (boxes2 w 24 24 #[.bool f, .slice A n c] #[.bool f, .slice A n c]).2.1.cell 1
  simp only [List.getElem?_toArray, List.getElem?_cons_succ, List.getElem?_cons_zero] at hbg
  have HG := Lib.hid (big_one _ A n c _ hbg)
  rw [decide_eq_false (by omega)] at HG
  have HT := Lib.hid ht
  have HH := Lib.hid h
  clear hx hv hr hb ht hbg h
  go_enter Tryd.func7, Tryd.ntmps7
  go_wp2_with (fail)
  generalize hW : (w.alloc (.cells #[.bool f, .slice A n c] 24)).alloc (.cells #[.bool f, .slice A n c] 24) = W at *
  clear hW
  refine HG.out.mono ?_
  rintro e w' ⟨rfl, rfl⟩
  clear HG
  have k0 := V0.out.cell 0
  have k1 := V0.out.cell 1
  simp only [List.getElem?_toArray, List.getElem?_cons_succ, List.getElem?_cons_zero] at k0 k1
  go_wp2_with (fail)
  have hz := HZ.out.step HB.out
  refine (power_int _ z M _ hz H0.out HM1.out).mono ?_
  rintro e w2 ⟨⟨y, rfl, j1⟩, q2⟩
  obtain ⟨g, D, p, d, rfl, j1, -, -⟩ := j1.look
  have VP := Lib.hid (IntVar.new j1)
  have qa := bstep q2 (below_alloc w2 (.cells #[.bool g, .slice D p d] 24))
  have VA := Lib.hid (show IntVar _ w.heap.size f A n c z from ⟨V0.out.below qa V0.out.lt, hz.step qa⟩)
  have hne1 : w.heap.size < w2.heap.size := Nat.lt_of_lt_of_le V0.out.lt q2.size
  have HB := Lib.hid (bstep HB.out qa)
  have R0 := Lib.hid (R0.out.step qa)
  have k2 := VP.out.cells.1
  have k3 := VP.out.cells.2
  clear q2 qa j1 k0 k1 hz V0
  have k0 := VA.out.cells.1
  have k1 := VA.out.cells.2
  generalize hpz : powZ z M = zp at *
  generalize hpe : powE z M = ep at *
  have HPZ := Lib.hid hpz
  have HPE := Lib.hid hpe
  clear hpz hpe
  go_wp2_with (fail)
  generalize hW : w2.alloc (.cells #[.bool g, .slice D p d] 24) = W2 at *
  clear hW k2 k3
  have hlt2 : w2.heap.size < W2.heap.size := VP.out.1.lt
  generalize w2.heap.size = b2 at *
  refine (rvalid_is _ _ R0.out).mono ?_
  rw [show validB f n z.natAbs = true from by rw [HF.out.1, HF.out.2]; exact valid_of H0.out]
  rintro e w3 ⟨rfl, q3⟩
  have VP := Lib.hid (VP.out.step q3)
  have VA := Lib.hid (VA.out.step q3)
  have HB := Lib.hid (bstep HB.out q3)
  have hlt3 : b2 < w3.heap.size := VP.out.1.lt
  clear q3 k0 k1 R0 hlt2
  have k0 := VA.out.cells.1
  have k1 := VA.out.cells.2
  have hb0 : ((n : Int) == 0) = false := by rw [HF.out.2, hbl1]; decide
  have hb1 : ((n : Int) == 1) = true := by rw [HF.out.2, hbl1]; decide
  obtain ⟨b, o, hA, hbo, hcd⟩ := (VA.out.2.open_).2.2.2.2 (by simp only [be_len]; omega)
  subst hA
  have hd0 := hcd 0 (by simp only [be_len]; omega)
  rw [be_get _ _ _ (by omega), hbl1, show 1 - 1 - 0 = 0 from rfl] at hd0
  simp only [Nat.add_zero] at hd0
  have hn1p : (0 : Int) < n := by have := HF.out.2; omega
  clear hcd
  have hdd : (byt z.natAbs 0 == 1) = false := by
    have h256 : z.natAbs < 256 := by have := blen_hi z.natAbs; rw [hbl1] at this; omega
    have : byt z.natAbs 0 = (z.natAbs : Int) := by unfold byt; rw [Nat.pow_zero, Nat.div_one, Nat.mod_eq_of_lt h256]
    rw [this]
    simp
    omega
  have hbg := trivial
  go_wp2_with (fail)
  obtain ⟨N, hN⟩ : ∃ N : Nat, N = M := ⟨_, rfl⟩
  rw [← hN]
  have hNM : N ≤ M := by omega
  have HS := Lib.hid (show SamePow z M N from hN ▸ samePow_refl z N)
  clear hN

  refine (of_lit 1 w3 (by decide)).mono ?_
  rintro e w4 ⟨⟨y, rfl, j1⟩, q4⟩
  obtain ⟨g4, D4, p4, d4, rfl, j1, -, -⟩ := j1.look
  have VW := Lib.hid (IntVar.new j1)
  have qa := bstep q4 (below_alloc w4 (.cells #[.bool g4, .slice D4 p4 d4] 24))
  have VP := Lib.hid (VP.out.step qa)
  have VA := Lib.hid (VA.out.step qa)
  have HB := Lib.hid (bstep HB.out qa)
  have hb4 : b2 < w4.heap.size := Nat.lt_of_lt_of_le hlt3 q4.size
  clear q4 qa j1 k0 k1 hbg
  go_wp2_with (fail)
  generalize hW : w4.alloc (.cells #[.bool g4, .slice D4 p4 d4] 24) = W4 at *
  clear hW
  generalize w4.heap.size = b4 at *
  have hnN : (N : Int) ≤ 9223372036854775807 := by have := HM1.out; have := hNM; omega
  have h1b : blen (1 : Int).natAbs ≤ 64 := blen_small (by decide)
  have HW0 := Lib.hid (show IntVar W4 b4 g4 D4 p4 d4 (z ^ 0) ∧ blen (z ^ 0).natAbs ≤ 64 from by rw [Int.pow_zero]; exact ⟨VW.out, h1b⟩)
  clear VW h1b
  go_loopw [8] (fun i wr => ∃ (k : Nat) (g' : Bool) (D' : Option Addr) (p' d' : Nat), k ≤ N ∧ i = .int .i64 k ∧ Hid (IntVar wr b4 g' D' p' d' (z ^ k)) ∧ Hid (blen (z ^ k).natAbs ≤ 64) ∧ Hid (IntVar wr w.heap.size f (some ⟨b, o, none⟩) n c z) ∧ Hid (IntVar wr b2 g D p d zp) ∧ Hid (Below w.heap.size w wr)) (fun i _ => N - (intOf i).toNat)
  case atStart => exact ⟨0, g4, D4, p4, d4, Nat.zero_le _, rfl, HW0.out.1, HW0.out.2, VA.out, VP.out, HB.out⟩
  case round =>
    obtain ⟨k, g', D', p', d', hk, rfl, hv, hbk, hva, hvp, hbl⟩ := hrel
    clear HW0 VA VP HB
    have k4 := hv.out.cells.1
    have k5 := hv.out.cells.2
    have k2 := hvp.out.cells.1
    have k3 := hvp.out.cells.2
    have k0 := hva.out.cells.1
    have k1 := hva.out.cells.2
    by_cases hlt : k < N
    · clear k2 k3
      go_wp2_with (fail)
      refine (product_int _ _ (z ^ k) z _ hv.out.2 hva.out.2 (Nat.lt_of_le_of_lt hbk.out (by omega)) (Nat.lt_of_le_of_lt H0.out (by omega))).mono ?_
      rw [← Int.pow_succ]
      rintro e w5 ⟨⟨y, rfl, j1⟩, q5⟩
      obtain ⟨g5, D5, p5, d5, rfl, j1, -, hp5⟩ := j1.look
      have hv5 := hv.out.step q5
      have hva5 := hva.out.step q5
      have hvp5 := hvp.out.step q5
      have HV6 := Lib.hid (hv5.put j1)
      have HVA6 := Lib.hid (hv5.other (g := g5) (D := D5) (m := p5) (d := d5) hva5 (by omega))
      have HVP6 := Lib.hid (hv5.other (g := g5) (D := D5) (m := p5) (d := d5) hvp5 (by omega))
      have HB6 := Lib.hid (((bstep hbl.out q5).setCell (p := ⟨b4, 0, none⟩) (by show w.heap.size ≤ b4; omega) (.bool g5)).setCell (p := ⟨b4, 1, none⟩) (by show w.heap.size ≤ b4; omega) (.slice D5 p5 d5))
      have c0 := hv5.cells.1
      have c1 := hv5.cells.2
      have y0 := hv5.1.free 0
      have y1 := hv5.1.free 1
      have HP5 := Lib.hid hp5
      clear k0 k1 k4 k5 hv hva hvp hbl hv5 hva5 hvp5 q5 j1 hp5
      by_cases hbig : 64 < p5
      · have HE := Lib.hid (pow_end_no HS.out (show k + 1 ≤ N by omega) (by rw [← HP5.out]; exact hbig))
        rw [HPZ.out, HPE.out] at HE
        have k2 := HVP6.out.cells.1
        have k3 := HVP6.out.cells.2
        have hbi : (64 : Int) < p5 := by omega
        clear hbig
        go_wp2_with (fail)
        clear c0 c1 y0 y1 k2 k3
        refine (same_law _ _ ep 7 zp 0 _ HVP6.out.2 (intIs_zero _ _)).mono ?_
        rw [show sameB ep 7 zp 0 = true from by rw [HE.out.1, HE.out.2]; decide]
        rintro e w7 ⟨rfl, q7⟩
        have HB := Lib.hid (bstep HB6.out q7)
        clear q7
        go_wp2_with (fail)
        refine (known_any _ (HT.out.below HB.out)).mono ?_
        rintro e wk ⟨rfl, qk⟩
        have HQ := Lib.hid (bstep HB.out qk)
        clear qk
        go_wp2_with (fail)
        go_ret
        exact ⟨rfl, HQ.out⟩
      · have hbk' := Lib.hid (show blen (z ^ (k + 1)).natAbs ≤ 64 by rw [← HP5.out]; omega)
        have hbi : ¬ (64 : Int) < p5 := by omega
        clear hbig
        go_wp2_with (fail)
        go_roundw
        case rel => exact ⟨k + 1, g5, D5, p5, d5, by omega, by go_num, HV6.out, hbk'.out, HVA6.out, HVP6.out, HB6.out⟩
        case measure => simp [intOf]; omega
    · obtain rfl : k = N := by omega
      have HE := Lib.hid (pow_end_yes HS.out hbk.out)
      rw [HPZ.out, HPE.out] at HE
      clear k0 k1
      go_wp2_with (fail)
      clear k2 k3 k4 k5
      refine (same_law _ _ ep 0 zp (z ^ k) _ hvp.out.2 hv.out.2).mono ?_
      rw [show sameB ep 0 zp (z ^ k) = true from by rw [HE.out.1, HE.out.2]; simp [sameB]]
      rintro e w7 ⟨rfl, q7⟩
      have HB := Lib.hid (bstep hbl.out q7)
      clear q7
      go_wp2_with (fail)
      refine (known_any _ (HT.out.below HB.out)).mono ?_
      rintro e wk ⟨rfl, qk⟩
      have HQ := Lib.hid (bstep HB.out qk)
      clear qk
      go_wp2_with (fail)
      go_ret
      exact ⟨rfl, HQ.out⟩
end Go.Proofs.YtnkklmbmodkogaaDoor

/-! Pw3 -/
namespace Go.Proofs.YtnkklmbmodkogaaDoor
open Go.RowKit

/-- A value that is valid is an Int. -/
theorem RawIs.int {w : World} {B : Nat} {x : Value} {f : Bool} {n v : Nat} (h : RawIs w B x f n v) (hv : v < 256 ^ n) (hb : validB f n v = true) : ∃ z, IntIs w B x z ∧ blen z.natAbs ≤ 64 := by
  obtain ⟨A, c, rfl, h1, h2, h3⟩ := h
  obtain ⟨z, hz, h64, -⟩ := valid_is h3 hv h1 h2 hb
  exact ⟨z, hz, h64⟩
theorem powers_any {f : Bool} {n v : Nat} (x : Value) (m : Int) (w : World) (hx : RawIs w w.heap.size x f n v) (hv : v < 256 ^ n) (_h0 : -9223372036854775808 ≤ m) (h1 : m ≤ 9223372036854775807) (ht : Tens w) :
    Calls Tryd.prog 7 #[x, .int .i64 m] w fun e w' => e = .returned (.bool true) ∧ Below w.heap.size w w' := by
  rcases Nat.lt_or_ge 80 n with hn | hn
  · exact powers_big x m w hx hn ht
  · cases hb : validB f n v
    · exact powers_bad x m w hx hb hn ht
    · obtain ⟨z, hz, h64⟩ := hx.int hv hb
      rcases Int.lt_or_le m 0 with hm | hm
      · exact powers_neg x m w hz h64 hm ht
      · obtain ⟨M, rfl⟩ := Int.eq_ofNat_of_zero_le hm
        have hM : M ≤ 9223372036854775807 := by omega
        rcases Nat.lt_or_ge 1 (blen z.natAbs) with hl | hl
        · exact powers_many x M w hz h64 hM hl ht
        · rcases Nat.lt_or_ge 1 z.natAbs with h2 | h2
          · exact powers_digit x M w hz h64 hM h2 (by have := blen_pos (v := z.natAbs) (by omega); omega) ht
          · rcases Nat.eq_zero_or_pos z.natAbs with h3 | h3
            · have hz0 : z = 0 := by omega
              rcases Nat.eq_zero_or_pos M with h4 | h4
              · exact powers_zero0 x M w hz h64 hM hz0 h4 ht
              · exact powers_zero x M w hz h64 hM hz0 h4 ht
            · rcases Nat.lt_or_ge 1 M with h4 | h4
              · exact powers_one x M w hz h64 hM (by omega) h4 ht
              · exact powers_one0 x M w hz h64 hM (by omega) h4 ht
end Go.Proofs.YtnkklmbmodkogaaDoor
