/- The reference's Text. -/
import Derived.Test.YtkofhjjfngnmmaaDoorXTe1
import Derived.Test.YtkofhjjfngnmmaaDoorG7
import Derived.Test.YtkofhjjfngnmmaaDoorXFo1
import Derived.Test.YtkofhjjfngnmmaaDoorXRd1
namespace Go.Proofs.YtkofhjjfngnmmaaDoor
open Go.RowKit

theorem tenth_nat (x : Value) (v : Nat) (w : World) (hx : NatIs w w.heap.size x v) (hv : blen v < 1000000) :
    Calls Tryd.prog 63 #[x] w fun e w' => (∃ y, e = .returned (.tuple #[y, .int .i64 ((v % 10 : Nat) : Int)]) ∧ NatIs w' w'.heap.size y (v / 10)) ∧ Below w.heap.size w w' := by
  obtain ⟨A, c, rfl, h1, h2, h3⟩ := hx
  exact tenth_any A (blen v) c v w.heap.size w h3 (Nat.le_refl _) (blen_hi v) hv
/-- The digits of m, none for 0. -/
def dgs (m : Nat) : List UInt8 := if m = 0 then [] else Lib.decDigits m
theorem dgs_zero : dgs 0 = [] := rfl
theorem dgs_pos {m : Nat} (h : m ≠ 0) : dgs m = Lib.decDigits m := if_neg h
theorem dgs_step {m : Nat} (h : m ≠ 0) : dgs m = dgs (m / 10) ++ [UInt8.ofNat (48 + m % 10)] := by
  rw [dgs_pos h, Lib.decDigits]
  by_cases h10 : m < 10
  · rw [dif_pos h10, show m / 10 = 0 by omega, dgs_zero, show m % 10 = m by omega]; rfl
  · rw [dif_neg h10, dgs_pos (by omega)]
theorem dgs_len (m : Nat) (h : m < 18446744073709551616 ^ 8) : (dgs m).length ≤ 155 := by
  unfold dgs
  split
  · simp
  · rw [Lib.decDigits_length]; exact dec_155 h
theorem blen_div (m : Nat) : blen (m / 10) ≤ blen m := by
  have h := blen_hi m
  exact blen_le (Nat.lt_of_le_of_lt (Nat.div_le_self _ _) h)
theorem blen_eq0 {m : Nat} : blen m = 0 ↔ m = 0 := by
  constructor
  · intro h; have := blen_hi m; rw [h] at this; simpa using this
  · rintro rfl; exact blen_zero
theorem itoa_0 : Lib.itoa 0 = [48] := by
  unfold Lib.itoa
  rw [if_neg (by decide)]
  show Lib.decDigits 0 = _
  rw [Lib.decDigits, dif_pos (by omega)]; rfl
theorem conv_dig (w : World) (dd : Nat) (h : dd < 10) : (convert 22 9 (.slice (some ⟨w.heap.size, 0, none⟩) 1 1)).run Tryd.prog (w.alloc (.cells #[.int .u8 (48 + (dd : Int))] 5)) = .ok (.string ⟨#[UInt8.ofNat (48 + dd)]⟩) (w.alloc (.cells #[.int .u8 (48 + (dd : Int))] 5)) := by
  have hv := Var.new w 5 #[.int .u8 (48 + (dd : Int))]
  have := conv_bys (c := 1) (n := 1) 22 Tryd.underlying22 (bys_cell (v := 48 + dd) hv (by omega) (by omega)) (fun x hx => by
    simp only [le, List.mem_map] at hx
    obtain ⟨j, _, rfl⟩ := hx
    exact byt_b _ _) (by simp)
  rw [this]
  have e : le (48 + dd) 1 = [((48 + dd : Nat) : Int)] := by
    have : byt (48 + dd) 0 = ((48 + dd : Nat) : Int) := by unfold byt; rw [Nat.pow_zero, Nat.div_one, Nat.mod_eq_of_lt (by omega)]
    simp [le, this]
  rw [e]
  rfl
set_option maxRecDepth 100000 in
set_option maxHeartbeats 2000000 in
theorem text_ref (x : Value) (z : Int) (w : World) (hx : IntIs w w.heap.size x z) (hz : blen z.natAbs ≤ 64) :
    Calls Tryd.prog 38 #[x] w fun e w' => e = .returned (.string ⟨(Lib.itoa z).toArray⟩) ∧ Below w.heap.size w w' := by
  obtain ⟨f, A, sz, c, rfl, hx, hf, hn⟩ := hx.look
  obtain ⟨hv0, hbW, hsz⟩ := boxes1 w 24 #[.bool f, .slice A sz c]
  have HX := Lib.hid (hx.step hbW)
  have HZ := Lib.hid hz
  have HF := Lib.hid hf
  clear hx hz hn hf
  have hlt0 : w.heap.size < (w.alloc (.cells #[.bool f, .slice A sz c] 24)).heap.size := by omega
  go_enter Tryd.func38, Tryd.ntmps38
  go_wp2_with (fail)
  generalize w.alloc (.cells #[.bool f, .slice A sz c] 24) = W at *
  have s0 := hv0.cell 0; have s1 := hv0.cell 1
  simp only [List.getElem?_toArray, List.getElem?_cons_succ, List.getElem?_cons_zero] at s0 s1
  go_wp2_with (fail)
  refine (abs_int _ z W HX.out (Nat.lt_of_le_of_lt HZ.out (by omega))).mono ?_
  rintro e w1 ⟨⟨y, rfl, n1⟩, q1⟩
  have HB1 := Lib.hid (hbW.trans (q1.mono (Nat.le_of_lt hlt0)))
  have HV1 := Lib.hid (hv0.below q1 hlt0)
  have HU := Lib.hid (abs_lt HZ.out)
  have HN1 := Lib.hid n1
  clear q1 n1 s0 s1 hv0 hbW HX
  go_wp2_with (fail)
  generalize hu : z.natAbs = u at *
  have HE := Lib.hid hu
  clear hu
  go_loopw [3, 4] (fun t x wr => ∃ (m : Nat) (tx : List UInt8), t = .string ⟨tx.toArray⟩ ∧ Hid (m ≤ u) ∧ Hid (dgs u = dgs m ++ tx) ∧ Hid (NatIs wr wr.heap.size x m) ∧ Hid (Var wr w.heap.size 24 #[.bool f, .slice A sz c]) ∧ Hid (Below w.heap.size w wr)) (fun t _ _ => 155 - strLen t)
  case atStart => exact ⟨u, [], rfl, Lib.hid (Nat.le_refl _), Lib.hid (by simp), HN1, HV1, HB1⟩
  case round =>
    obtain ⟨m, tx, rfl, hm, hd, hn, hv, hb⟩ := hrel
    clear HV1 HB1 HN1
    have hbm : blen m ≤ 64 := by
      have h1 := HE.out; have h2 := HZ.out
      refine Nat.le_trans (blen_le ?_) h2
      exact Nat.lt_of_le_of_lt hm.out (blen_hi u)
    have HBM := Lib.hid hbm
    have hl : tx.length ≤ 155 := by
      have h1 := congrArg List.length hd.out
      rw [List.length_append] at h1
      have := dgs_len u HU.out
      omega
    by_cases h0 : m = 0
    · subst h0
      obtain ⟨A1, c1, rfl, k1, k2, k3⟩ := hn.out
      rw [blen_zero]
      have hd' : tx = dgs u := by rw [hd.out, dgs_zero]; rfl
      subst hd'
      have s0 := hv.out.cell 0
      simp only [List.getElem?_toArray, List.getElem?_cons_zero] at s0
      by_cases hu0 : u = 0
      · have hz0 : z = 0 := by have := HE.out; omega
        have hf : f = false := by rw [HF.out, hz0]; rfl
        subst hu0 hz0 hf
        rw [dgs_zero]
        have HB := Lib.hid hb.out
        clear hb hbm hm hd HE HZ HU HBM hl
        go_wp2_with (fail)
        refine bodyPost_ret (v := .string ⟨(Lib.itoa 0).toArray⟩) ?_ rfl ⟨rfl, HB.out⟩
        simp only [results, Tryd.results38, go_sem]
        simp [itoa_0]
      · have hDp : (dgs u).isEmpty = false := by
          rw [dgs_pos hu0, List.isEmpty_eq_false_iff]
          intro h
          have := congrArg List.length h
          rw [Lib.decDigits_length] at this
          have := Lib.nDigits_pos u
          simp at *; omega
        have hDL : ¬ 9223372036854775807 < 1 + (dgs u).length := by omega
        have hlen2 : ¬ 9223372036854775807 < (dgs u).length + 1 := by omega
        have hI : Lib.itoa z = if z < 0 then 45 :: dgs u else dgs u := by
          rw [dgs_pos hu0, ← HE.out]; unfold Lib.itoa; split
          · rfl
          · congr 1; omega
        have HI := Lib.hid hI
        have HB := Lib.hid hb.out
        clear hb hbm hm hd HE HZ HU HBM hl hI
        cases f
        · have h1 := of_decide_eq_false HF.out.symm
          rw [if_neg h1] at HI
          go_wp2_with (fail)
          refine bodyPost_ret (v := .string ⟨(Lib.itoa z).toArray⟩) ?_ rfl ⟨rfl, HB.out⟩
          rw [HI.out]
          simp [results, Tryd.results38, go_sem]
        · have h1 := of_decide_eq_true HF.out.symm
          rw [if_pos h1] at HI
          have HS := Lib.hid (show (⟨#[45]⟩ : ByteArray) ++ ⟨(dgs u).toArray⟩ = ⟨(45 :: dgs u).toArray⟩ from str_cat [45] _)
          go_wp2_with (fail)
          refine bodyPost_ret (v := .string ⟨(Lib.itoa z).toArray⟩) ?_ rfl ⟨rfl, HB.out⟩
          rw [HI.out, ← HS.out]
          simp [results, Tryd.results38, go_sem]
    · have hb0 : blen m ≠ 0 := fun h => h0 (blen_eq0.1 h)
      have hn' := hn
      obtain ⟨A1, c1, rfl, k1, k2, k3⟩ := hn'.out
      have HST := Lib.hid (dgs_step h0)
      have hp : (0 : Int) < (blen m : Int) := by omega
      clear k1 k2 k3
      go_wp2_with (fail)
      refine (tenth_nat _ m wr hn.out (by have := HBM.out; omega)).mono ?_
      rintro e w2 ⟨⟨y2, rfl, n2⟩, q2⟩
      have hlt := hv.out.lt
      have HV2 := Lib.hid (hv.out.below q2 hlt)
      have HB2 := Lib.hid (hb.out.trans (q2.mono (Nat.le_of_lt hlt)))
      have HN2 := Lib.hid n2
      have hd9 : m % 10 < 10 := Nat.mod_lt _ (by omega)
      have hlt2 := HV2.out.lt
      have HQ := Lib.hid (show m / 10 ≤ u from Nat.le_trans (Nat.div_le_self _ _) hm.out)
      clear q2 n2 hv hn hn' hb hm hbm
      generalize m % 10 = dd at *
      generalize m / 10 = m' at *
      have hw : IntKind.u8.wrap (48 + (dd : Int)) = 48 + dd := by rw [IntKind.wrap_u8]; omega
      have hcv := conv_dig w2 dd hd9
      have hbA := below_alloc w2 (.cells #[.int .u8 (48 + (dd : Int))] 5)
      have HV3 := Lib.hid (HV2.out.below hbA hlt2)
      have HB3 := Lib.hid (HB2.out.trans (hbA.mono (Nat.le_of_lt hlt2)))
      have HN3 := Lib.hid (HN2.out.next hbA)
      have hcl : ¬ 9223372036854775807 < 1 + tx.length := by omega
      have HD3 := Lib.hid (show dgs u = dgs m' ++ (UInt8.ofNat (48 + dd) :: tx) by rw [hd.out, HST.out, List.append_assoc]; rfl)
      have HLT : Hid (tx.length < 155) := Lib.hid (by
        have h1 := congrArg List.length HD3.out
        rw [List.length_append, List.length_cons] at h1
        have := dgs_len u HU.out
        omega)
      clear HV2 HB2 HN2 hbA hd HST
      generalize hW3 : w2.alloc (.cells #[.int .u8 (48 + (dd : Int))] 5) = w3 at *
      go_wp2_with (fail)
      have e8 : UInt8.ofNat (48 + dd) = 48 + UInt8.ofNat dd := UInt8.ofNat_add 48 dd
      refine ⟨⟨m', (48 + UInt8.ofNat dd) :: tx, ?_, HQ, ?_, HN3, HV3, HB3⟩, ?_⟩
      · exact congrArg Value.string (str_cat [48 + UInt8.ofNat dd] tx)
      · rw [← e8]; exact HD3
      · have e9 : (⟨#[48 + UInt8.ofNat dd]⟩ : ByteArray) ++ ⟨tx.toArray⟩ = ⟨((48 + UInt8.ofNat dd) :: tx).toArray⟩ := str_cat [48 + UInt8.ofNat dd] tx
        rw [e9]
        have := HLT.out
        simp only [strLen, ByteArray.size, List.size_toArray, List.length_cons]
        omega
end Go.Proofs.YtkofhjjfngnmmaaDoor
