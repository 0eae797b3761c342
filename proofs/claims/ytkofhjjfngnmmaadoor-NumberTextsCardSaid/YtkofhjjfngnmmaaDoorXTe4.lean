/- The statement NumberTexts: the walk. -/
import Derived.Test.YtkofhjjfngnmmaaDoorXTe3
import Derived.Test.YtkofhjjfngnmmaaDoorXVa1
namespace Go.Proofs.YtkofhjjfngnmmaaDoor
open Go.RowKit

theorem itoa_len (z : Int) : (Lib.itoa z).length = Lib.nDigits z.natAbs + (if z < 0 then 1 else 0) := by
  unfold Lib.itoa
  split
  · rw [List.length_cons, Lib.decDigits_length]
  · rw [Lib.decDigits_length, show z.toNat = z.natAbs by omega]; rfl
theorem fits_of {z : Int} (h : blen z.natAbs ≤ 64) : fits z.natAbs = true := by
  have := abs_lt h
  unfold fits
  simpa using this
theorem parse_text (a : Int) (w : World) (h : blen a.natAbs ≤ 64) : Calls Tryd.prog 39 #[.string ⟨(Lib.itoa a).toArray⟩] w (RetIntE w a 0) := by
  have e := itoa_par a (fits_of h)
  have hl : (Lib.itoa a).length ≤ 1000000000000 := by
    rw [itoa_len]
    have := dec_155 (abs_lt h)
    split <;> omega
  have := parse_any (Lib.itoa a) w hl
  rwa [e.1, e.2] at this
theorem digits10_nd (x : Value) (z : Int) (nd : Nat) (w : World) (hx : IntIs w w.heap.size x z) (hz : blen z.natAbs ≤ 64) (hn : Lib.nDigits z.natAbs = nd) (ht : Tens w) :
    Calls Tryd.prog 19 #[x] w fun e w' => e = .returned (.int .i64 nd) ∧ Below w.heap.size w w' := hn ▸ digits10_int x z w hx hz ht

set_option maxRecDepth 100000 in
set_option maxHeartbeats 8000000 in
theorem texts_big {f : Bool} {n v : Nat} (x : Value) (w : World) (hx : RawIs w w.heap.size x f n v) (h : 80 < n) (ht : Tens w) :
    Calls Tryd.prog 8 #[x] w fun e w' => e = .returned (.bool true) ∧ Below w.heap.size w w' := by
  obtain ⟨A, c, rfl, hx⟩ := hx.look
  obtain ⟨va, hb⟩ := one_raw hx
  have hq := below_alloc (w.alloc (.cells #[.bool f, .slice A n c] 24)) (.cells #[.bool f, .slice A n c] 24)
  have RA := Lib.hid (va.step hq)
  have HB := Lib.hid (bstep hb hq)
  have k0 := va.cells.1
  have k1 := va.cells.2
  have HG := big_one _ A n c _ (big2c (w.alloc (.cells #[.bool f, .slice A n c] 24)) f A n c)
  rw [decide_eq_true (by omega)] at HG
  have HG := Lib.hid HG
  have HT := Lib.hid ht
  clear hx va hb hq ht h
  go_enter Tryd.func8, Tryd.ntmps8
  go_wp2_with (fail)
  generalize hW : (w.alloc (.cells #[.bool f, .slice A n c] 24)).alloc (.cells #[.bool f, .slice A n c] 24) = W at *
  clear hW k0 k1
  have HG := HG.out
  simp only [show (w.alloc (.cells #[.bool f, .slice A n c] 24)).heap.size = w.heap.size + 1 from by simp] at HG
  refine HG.mono ?_
  rintro e w' ⟨rfl, rfl⟩
  clear HG
  go_wp2_with (fail)
  refine (known_any _ (HT.out.below HB.out)).mono ?_
  rintro e wk ⟨rfl, qk⟩
  have HQ := Lib.hid (bstep HB.out qk)
  clear qk
  go_wp2_with (fail)
  go_ret
  exact ⟨rfl, HQ.out⟩
set_option maxRecDepth 100000 in
set_option maxHeartbeats 8000000 in
theorem texts_bad {f : Bool} {n v : Nat} (x : Value) (w : World) (hx : RawIs w w.heap.size x f n v) (h0 : validB f n v = false) (h : n ≤ 80) (ht : Tens w) :
    Calls Tryd.prog 8 #[x] w fun e w' => e = .returned (.bool true) ∧ Below w.heap.size w w' := by
  have H0 := Lib.hid h0
  clear h0
  obtain ⟨A, c, rfl, hx⟩ := hx.look
  obtain ⟨va, hb⟩ := one_raw hx
  have hq := below_alloc (w.alloc (.cells #[.bool f, .slice A n c] 24)) (.cells #[.bool f, .slice A n c] 24)
  have RA := Lib.hid (va.step hq)
  have HB := Lib.hid (bstep hb hq)
  have k0 := va.cells.1
  have k1 := va.cells.2
  have HG := big_one _ A n c _ (big2c (w.alloc (.cells #[.bool f, .slice A n c] 24)) f A n c)
  rw [decide_eq_false (by omega)] at HG
  have HG := Lib.hid HG
  have HT := Lib.hid ht
  clear hx va hb hq ht h
  go_enter Tryd.func8, Tryd.ntmps8
  go_wp2_with (fail)
  generalize hW : (w.alloc (.cells #[.bool f, .slice A n c] 24)).alloc (.cells #[.bool f, .slice A n c] 24) = W at *
  clear hW k0 k1
  have HG := HG.out
  simp only [show (w.alloc (.cells #[.bool f, .slice A n c] 24)).heap.size = w.heap.size + 1 from by simp] at HG
  refine HG.mono ?_
  rintro e w' ⟨rfl, rfl⟩
  clear HG
  have kRA0 := RA.out.cells.1
  have kRA1 := RA.out.cells.2
  go_wp2_with (fail)
  refine (rvalid_is _ _ RA.out.2).mono ?_
  rw [H0.out]
  rintro e w_1 ⟨rfl, qq⟩
  clear kRA0 kRA1
  have HB := Lib.hid (bstep HB.out qq)
  have RA := Lib.hid (RA.out.step qq)
  clear qq
  have kRA0 := RA.out.cells.1
  have kRA1 := RA.out.cells.2
  go_wp2_with (fail)
  refine (known_any _ (HT.out.below HB.out)).mono ?_
  rintro e wk ⟨rfl, qk⟩
  have HQ := Lib.hid (bstep HB.out qk)
  clear qk
  clear kRA0 kRA1
  go_wp2_with (fail)
  go_ret
  exact ⟨rfl, HQ.out⟩
set_option maxRecDepth 100000 in
set_option maxHeartbeats 8000000 in
theorem texts_neg (x : Value) (a : Int) (w : World) (hz : IntIs w w.heap.size x a) (h0 : blen a.natAbs ≤ 64) (hr : a < 0) (ht : Tens w) :
    Calls Tryd.prog 8 #[x] w fun e w' => e = .returned (.bool true) ∧ Below w.heap.size w w' := by
  have hx := hz.raw
  obtain ⟨f, hf⟩ : ∃ f, f = decide (a < 0) := ⟨_, rfl⟩
  obtain ⟨n, hn⟩ : ∃ n, n = blen a.natAbs := ⟨_, rfl⟩
  rw [← hf, ← hn] at hx
  have HZA := Lib.hid hz
  have HVA := Lib.hid (show validB f n a.natAbs = true by rw [hf, hn]; exact valid_of h0)
  have h : n ≤ 80 := by omega
  have H0 := Lib.hid h0
  obtain ⟨nd, hnd⟩ : ∃ nd, Lib.nDigits a.natAbs = nd := ⟨_, rfl⟩
  have hil := itoa_len a
  have h155 := dec_155 (abs_lt h0)
  rw [hnd] at h155 hil
  rw [if_pos hr] at hil
  obtain rfl : f = true := by rw [hf]; simpa using hr
  have HND := Lib.hid hnd
  have HIL := Lib.hid hil
  have H155 := Lib.hid h155
  clear hz hf hn h0 hr hnd hil h155
  obtain ⟨A, c, rfl, hx⟩ := hx.look
  obtain ⟨va, hb⟩ := one_raw hx
  have hq := below_alloc (w.alloc (.cells #[.bool true, .slice A n c] 24)) (.cells #[.bool true, .slice A n c] 24)
  have RA := Lib.hid (va.step hq)
  have HB := Lib.hid (bstep hb hq)
  have k0 := va.cells.1
  have k1 := va.cells.2
  have HG := big_one _ A n c _ (big2c (w.alloc (.cells #[.bool true, .slice A n c] 24)) true A n c)
  rw [decide_eq_false (by omega)] at HG
  have HG := Lib.hid HG
  have HT := Lib.hid ht
  clear hx va hb hq ht h
  go_enter Tryd.func8, Tryd.ntmps8
  go_wp2_with (fail)
  generalize hW : (w.alloc (.cells #[.bool true, .slice A n c] 24)).alloc (.cells #[.bool true, .slice A n c] 24) = W at *
  clear hW k0 k1
  have HG := HG.out
  simp only [show (w.alloc (.cells #[.bool true, .slice A n c] 24)).heap.size = w.heap.size + 1 from by simp] at HG
  refine HG.mono ?_
  rintro e w' ⟨rfl, rfl⟩
  clear HG
  have VA := Lib.hid (show IntVar W w.heap.size true A n c a from ⟨RA.out.1, HZA.out.step HB.out⟩)
  clear HZA
  have kVA0 := VA.out.cells.1
  have kVA1 := VA.out.cells.2
  go_wp2_with (fail)
  refine (rvalid_is _ _ RA.out.2).mono ?_
  rw [HVA.out]
  rintro e w_1 ⟨rfl, qq⟩
  clear kVA0 kVA1
  have HB := Lib.hid (bstep HB.out qq)
  have RA := Lib.hid (RA.out.step qq)
  have VA := Lib.hid (VA.out.step qq)
  clear qq
  have kVA0 := VA.out.cells.1
  have kVA1 := VA.out.cells.2
  go_wp2_with (fail)
  clear RA HVA
  refine (text_ref _ a _ VA.out.2 H0.out).mono ?_
  rintro e w_2 ⟨rfl, qq⟩
  clear kVA0 kVA1
  have HB := Lib.hid (bstep HB.out qq)
  have VA := Lib.hid (VA.out.step qq)
  clear qq
  have kVA0 := VA.out.cells.1
  have kVA1 := VA.out.cells.2
  have hil := HIL.out
  have h155 := H155.out
  have hp := Lib.nDigits_pos a.natAbs
  have hwr : IntKind.i64.wrap (((Lib.itoa a).length : Int) - 1) = (nd : Int) := by rw [IntKind.wrap_i64]; omega
  go_wp2_with (fail)
  refine (parse_text a _ H0.out).mono ?_
  rintro e w_3 ⟨⟨yy, rfl, j1⟩, qq⟩
  obtain ⟨fVB, AVB, nVB, cVB, rfl, j1, -, -⟩ := j1.look
  have VB := Lib.hid (IntVar.new j1)
  have qa := bstep qq (below_alloc w_3 (.cells #[.bool fVB, .slice AVB nVB cVB] 24))
  clear kVA0 kVA1
  have HB := Lib.hid (bstep HB.out qa)
  have VA := Lib.hid (VA.out.step qa)
  clear qq qa j1
  have kVA0 := VA.out.cells.1
  have kVA1 := VA.out.cells.2
  go_wp2_with (fail)
  generalize hW : (w_3.alloc (.cells #[.bool fVB, .slice AVB nVB cVB] 24)) = W_4 at *
  clear hW
  generalize w_3.heap.size = b_5 at *
  refine (text_int _ a _ VA.out.2 H0.out (HT.out.below HB.out)).mono ?_
  rintro e w_6 ⟨rfl, qq⟩
  clear kVA0 kVA1
  have HB := Lib.hid (bstep HB.out qq)
  have VA := Lib.hid (VA.out.step qq)
  have VB := Lib.hid (VB.out.step qq)
  clear qq
  have kVA0 := VA.out.cells.1
  have kVA1 := VA.out.cells.2
  go_wp2_with (fail)
  refine (digits10_nd _ a nd _ VA.out.2 H0.out HND.out (HT.out.below HB.out)).mono ?_
  rintro e w_7 ⟨rfl, qq⟩
  clear kVA0 kVA1
  have HB := Lib.hid (bstep HB.out qq)
  have VA := Lib.hid (VA.out.step qq)
  have VB := Lib.hid (VB.out.step qq)
  clear qq
  have kVA0 := VA.out.cells.1
  have kVA1 := VA.out.cells.2
  have kVB0 := VB.out.cells.1
  have kVB1 := VB.out.cells.2
  go_wp2_with (fail)
  refine (same_law _ _ 0 0 a a _ VB.out.2 VA.out.2).mono ?_
  rw [sameB_self]
  rintro e w_8 ⟨rfl, qq⟩
  clear kVA0 kVA1 kVB0 kVB1
  have HB := Lib.hid (bstep HB.out qq)
  have VA := Lib.hid (VA.out.step qq)
  have VB := Lib.hid (VB.out.step qq)
  clear qq
  go_wp2_with (fail)
  refine (known_any _ (HT.out.below HB.out)).mono ?_
  rintro e wk ⟨rfl, qk⟩
  have HQ := Lib.hid (bstep HB.out qk)
  clear qk
  go_wp2_with (fail)
  go_ret
  exact ⟨rfl, HQ.out⟩
set_option maxRecDepth 100000 in
set_option maxHeartbeats 8000000 in
theorem texts_pos (x : Value) (a : Int) (w : World) (hz : IntIs w w.heap.size x a) (h0 : blen a.natAbs ≤ 64) (hr : ¬ a < 0) (ht : Tens w) :
    Calls Tryd.prog 8 #[x] w fun e w' => e = .returned (.bool true) ∧ Below w.heap.size w w' := by
  have hx := hz.raw
  obtain ⟨f, hf⟩ : ∃ f, f = decide (a < 0) := ⟨_, rfl⟩
  obtain ⟨n, hn⟩ : ∃ n, n = blen a.natAbs := ⟨_, rfl⟩
  rw [← hf, ← hn] at hx
  have HZA := Lib.hid hz
  have HVA := Lib.hid (show validB f n a.natAbs = true by rw [hf, hn]; exact valid_of h0)
  have h : n ≤ 80 := by omega
  have H0 := Lib.hid h0
  obtain ⟨nd, hnd⟩ : ∃ nd, Lib.nDigits a.natAbs = nd := ⟨_, rfl⟩
  have hil := itoa_len a
  have h155 := dec_155 (abs_lt h0)
  rw [hnd] at h155 hil
  rw [if_neg hr] at hil
  obtain rfl : f = false := by rw [hf]; simpa using hr
  have HND := Lib.hid hnd
  have HIL := Lib.hid hil
  have H155 := Lib.hid h155
  clear hz hf hn h0 hr hnd hil h155
  obtain ⟨A, c, rfl, hx⟩ := hx.look
  obtain ⟨va, hb⟩ := one_raw hx
  have hq := below_alloc (w.alloc (.cells #[.bool false, .slice A n c] 24)) (.cells #[.bool false, .slice A n c] 24)
  have RA := Lib.hid (va.step hq)
  have HB := Lib.hid (bstep hb hq)
  have k0 := va.cells.1
  have k1 := va.cells.2
  have HG := big_one _ A n c _ (big2c (w.alloc (.cells #[.bool false, .slice A n c] 24)) false A n c)
  rw [decide_eq_false (by omega)] at HG
  have HG := Lib.hid HG
  have HT := Lib.hid ht
  clear hx va hb hq ht h
  go_enter Tryd.func8, Tryd.ntmps8
  go_wp2_with (fail)
  generalize hW : (w.alloc (.cells #[.bool false, .slice A n c] 24)).alloc (.cells #[.bool false, .slice A n c] 24) = W at *
  clear hW k0 k1
  have HG := HG.out
  simp only [show (w.alloc (.cells #[.bool false, .slice A n c] 24)).heap.size = w.heap.size + 1 from by simp] at HG
  refine HG.mono ?_
  rintro e w' ⟨rfl, rfl⟩
  clear HG
  have VA := Lib.hid (show IntVar W w.heap.size false A n c a from ⟨RA.out.1, HZA.out.step HB.out⟩)
  clear HZA
  have kVA0 := VA.out.cells.1
  have kVA1 := VA.out.cells.2
  go_wp2_with (fail)
  refine (rvalid_is _ _ RA.out.2).mono ?_
  rw [HVA.out]
  rintro e w_1 ⟨rfl, qq⟩
  clear kVA0 kVA1
  have HB := Lib.hid (bstep HB.out qq)
  have RA := Lib.hid (RA.out.step qq)
  have VA := Lib.hid (VA.out.step qq)
  clear qq
  have kVA0 := VA.out.cells.1
  have kVA1 := VA.out.cells.2
  go_wp2_with (fail)
  clear RA HVA
  refine (text_ref _ a _ VA.out.2 H0.out).mono ?_
  rintro e w_2 ⟨rfl, qq⟩
  clear kVA0 kVA1
  have HB := Lib.hid (bstep HB.out qq)
  have VA := Lib.hid (VA.out.step qq)
  clear qq
  have kVA0 := VA.out.cells.1
  have kVA1 := VA.out.cells.2
  have hil := HIL.out
  have h155 := H155.out
  have hp := Lib.nDigits_pos a.natAbs
  go_wp2_with (fail)
  refine (parse_text a _ H0.out).mono ?_
  rintro e w_3 ⟨⟨yy, rfl, j1⟩, qq⟩
  obtain ⟨fVB, AVB, nVB, cVB, rfl, j1, -, -⟩ := j1.look
  have VB := Lib.hid (IntVar.new j1)
  have qa := bstep qq (below_alloc w_3 (.cells #[.bool fVB, .slice AVB nVB cVB] 24))
  clear kVA0 kVA1
  have HB := Lib.hid (bstep HB.out qa)
  have VA := Lib.hid (VA.out.step qa)
  clear qq qa j1
  have kVA0 := VA.out.cells.1
  have kVA1 := VA.out.cells.2
  go_wp2_with (fail)
  generalize hW : (w_3.alloc (.cells #[.bool fVB, .slice AVB nVB cVB] 24)) = W_4 at *
  clear hW
  generalize w_3.heap.size = b_5 at *
  refine (text_int _ a _ VA.out.2 H0.out (HT.out.below HB.out)).mono ?_
  rintro e w_6 ⟨rfl, qq⟩
  clear kVA0 kVA1
  have HB := Lib.hid (bstep HB.out qq)
  have VA := Lib.hid (VA.out.step qq)
  have VB := Lib.hid (VB.out.step qq)
  clear qq
  have kVA0 := VA.out.cells.1
  have kVA1 := VA.out.cells.2
  go_wp2_with (fail)
  refine (digits10_nd _ a nd _ VA.out.2 H0.out HND.out (HT.out.below HB.out)).mono ?_
  rintro e w_7 ⟨rfl, qq⟩
  clear kVA0 kVA1
  have HB := Lib.hid (bstep HB.out qq)
  have VA := Lib.hid (VA.out.step qq)
  have VB := Lib.hid (VB.out.step qq)
  clear qq
  have kVA0 := VA.out.cells.1
  have kVA1 := VA.out.cells.2
  have kVB0 := VB.out.cells.1
  have kVB1 := VB.out.cells.2
  go_wp2_with (fail)
  refine (same_law _ _ 0 0 a a _ VB.out.2 VA.out.2).mono ?_
  rw [sameB_self]
  rintro e w_8 ⟨rfl, qq⟩
  clear kVA0 kVA1 kVB0 kVB1
  have HB := Lib.hid (bstep HB.out qq)
  have VA := Lib.hid (VA.out.step qq)
  have VB := Lib.hid (VB.out.step qq)
  clear qq
  go_wp2_with (fail)
  refine (known_any _ (HT.out.below HB.out)).mono ?_
  rintro e wk ⟨rfl, qk⟩
  have HQ := Lib.hid (bstep HB.out qk)
  clear qk
  go_wp2_with (fail)
  go_ret
  exact ⟨rfl, HQ.out⟩
theorem texts_any {f : Bool} {n v : Nat} (x : Value) (w : World) (hx : RawIs w w.heap.size x f n v) (hv : v < 256 ^ n) (ht : Tens w) :
    Calls Tryd.prog 8 #[x] w fun e w' => e = .returned (.bool true) ∧ Below w.heap.size w w' := by
  rcases Nat.lt_or_ge 80 n with hn | hn
  · exact texts_big x w hx hn ht
  · cases hb : validB f n v
    · exact texts_bad x w hx hb hn ht
    · obtain ⟨a, ha, h64⟩ := hx.int hv hb
      by_cases h1 : a < 0
      · exact texts_neg x a w ha h64 h1 ht
      · exact texts_pos x a w ha h64 h1 ht
end Go.Proofs.YtkofhjjfngnmmaaDoor
