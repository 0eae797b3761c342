/- The reference's Tenth. The reference's Form. The reference's Read. The reference's Split: the numbers. The reference's Split: the walk. The reference's Common. The reference's Common. -/
import Derived.Test.YtnkklmbmodkogaaDoorG2
import Derived.Test.YtnkklmbmodkogaaDoorG7
import Derived.Test.YtnkklmbmodkogaaDoorG8
import Derived.Deep.RegionHeld3
import Derived.Test.YtnkklmbmodkogaaDoorG5
import Derived.Test.YtnkklmbmodkogaaDoorG6
import Derived.Deep.RegionLaw
import Derived.Test.YtnkklmbmodkogaaDoorG3
/-! Te1 -/
namespace Go.Proofs.YtnkklmbmodkogaaDoor
open Go.RowKit

/-- The bytes of Q from k on. -/
def hib (Q k n : Nat) : List Int := (List.range n).map fun j => if k ≤ j then byt Q j else 0
@[simp] theorem hib_len (Q k n : Nat) : (hib Q k n).length = n := by simp [hib]
theorem hib_zero (Q n : Nat) : hib Q 0 n = le Q n := by simp [hib, le]
theorem hib_all (Q n : Nat) : hib Q n n = List.replicate n 0 := by
  apply List.ext_getElem
  · simp
  · intro k h1 h2
    simp only [hib_len] at h1
    simp [hib]; omega
theorem hib_set (Q k n : Nat) (_hk : k < n) : (hib Q (k + 1) n).set k (byt Q k) = hib Q k n := by
  apply List.ext_getElem
  · simp
  · intro j h1 h2
    simp only [List.length_set, hib_len] at h1
    rw [List.getElem_set]
    simp only [hib, List.getElem_map, List.getElem_range]
    by_cases e : k = j
    · subst e; simp
    · rw [if_neg e]
      by_cases h : k + 1 ≤ j
      · rw [if_pos h, if_pos (by omega)]
      · rw [if_neg h, if_neg (by omega)]
/-- The remainder of the digits above k. -/
def rm10 (v k : Nat) : Nat := v / 256 ^ k % 10
theorem tenth_digit (v k : Nat) : (256 * (rm10 v (k + 1) : Int) + byt v k) / 10 = byt (v / 10) k ∧ (256 * (rm10 v (k + 1) : Int) + byt v k) % 10 = rm10 v k ∧ 0 ≤ 256 * (rm10 v (k + 1) : Int) + byt v k ∧ 256 * (rm10 v (k + 1) : Int) + byt v k ≤ 2559 := by
  have e1 : v / 256 ^ (k + 1) = v / 256 ^ k / 256 := div_pow_succ v 256 k
  have e2 : v / 10 / 256 ^ k = v / 256 ^ k / 10 := by rw [Nat.div_div_eq_div_mul, Nat.div_div_eq_div_mul, Nat.mul_comm]
  unfold rm10 byt
  rw [e1, e2]
  generalize v / 256 ^ k = x
  omega

set_option maxRecDepth 100000 in
set_option maxHeartbeats 2000000 in
theorem tenth_any (A : Option Addr) (n c v B : Nat) (w : World) (hr : Bys w B A (le v n)) (hB : B ≤ w.heap.size) (hv : v < 256 ^ n) (hn1 : n < 1000000) :
    Calls Tryd.prog 63 #[.slice A n c] w fun e w' => (∃ x, e = .returned (.tuple #[x, .int .i64 ((v % 10 : Nat) : Int)]) ∧ NatIs w' w'.heap.size x (v / 10)) ∧ Below w.heap.size w w' := by
  go_enter Tryd.func63, Tryd.ntmps63
  go_wp2_with (refine make1 rfl _ _ _ rfl Tryd.underlying62 n _ _ rfl rfl ?c1 ?c2 ?c3 (Below.refl _ _) (Nat.le_refl _) ?_)
  case c1 => simp
  case c2 => simp
  case c3 => omega
  intro w1 hown0 hbl0 hsz0
  rw [← hib_all (v / 10)] at hown0
  have HR := hr.below' hbl0 hB
  clear hr
  have HB0 := Lib.hid hbl0
  clear hbl0
  have hq : v / 10 < 256 ^ n := Nat.lt_of_le_of_lt (Nat.div_le_self _ _) hv
  have HQ := Lib.hid hq
  clear hq
  have hk0 : IntKind.i64.wrap ((n : Int) - 1) = (n : Int) - 1 := by rw [IntKind.wrap_i64]; omega
  have hr0 : rm10 v n = 0 := by unfold rm10; rw [Nat.div_eq_of_lt hv]
  go_wp2
  generalize hg : w.heap.size = g at *
  have Hg := Lib.hid hg
  clear hg
  go_loopw [5, 6] (fun r i wr => ∃ k : Nat, k ≤ n ∧ r = .int .i64 (rm10 v k : Nat) ∧ i = .int .i64 ((k : Int) - 1) ∧ Own wr g (.slice (some ⟨g, 0, none⟩) n n) (hib (v / 10) k n) ∧ Below g w1 wr) (fun _ i _ => (intOf i + 1).toNat)
  case atStart => exact ⟨n, Nat.le_refl _, by simp [hr0], by first | rfl | simp [hk0] | go_num, hown0, Below.refl _ _⟩
  case round =>
    obtain ⟨k, hk, rfl, rfl, hown, hbl⟩ := hrel
    rcases Nat.eq_zero_or_pos k with rfl | hk1
    · rw [hib_zero] at hown
      obtain ⟨A1, c1, hx, q1, q2, q3⟩ := hown.form
      simp only [le_len, Value.slice.injEq, true_and] at hx q1
      obtain ⟨rfl, rfl⟩ := hx
      have hmod : rm10 v 0 = v % 10 := by simp [rm10]
      have hwg : g ≤ wr.heap.size := by have h1 := HB0.out.size; have h2 := hbl.size; omega
      have HX := Lib.hid (show NatIs wr wr.heap.size (.slice (some ⟨g, 0, none⟩) (blen (v / 10)) n) (v / 10) from ⟨_, _, rfl, blen_le HQ.out, q2, (by
        have := hown.take (m := blen (v / 10)) (by simp) (by simpa using blen_le HQ.out)
        rw [le_take _ _ _ (blen_le HQ.out)] at this
        obtain ⟨A2, c2, hx2, r1, r2, r3⟩ := this.form
        simp only [le_len, Value.slice.injEq, true_and] at hx2
        obtain ⟨rfl, rfl⟩ := hx2
        exact r3)⟩)
      have HBB := Lib.hid (HB0.out.trans hbl)
      clear HR hown hbl
      go_wp2_with fail
      refine (trim_any (some ⟨g, 0, none⟩) n n (v / 10) wr.heap.size wr q3 HQ.out (Nat.le_refl _) q2).mono ?_
      rintro e w' ⟨rfl, rfl⟩
      go_wp2
      refine bodyPost_ret (v := .tuple #[.slice (some ⟨g, 0, none⟩) (blen (v / 10)) n, .int .i64 ((v % 10 : Nat) : Int)]) ?_ rfl ⟨⟨_, rfl, HX.out⟩, by rw [Hg.out]; exact HBB.out⟩
      simp [results, Tryd.results63, go_sem]
    · obtain ⟨k, rfl⟩ : ∃ k0, k = k0 + 1 := ⟨k - 1, by omega⟩
      have hrr := HR.below' hbl (by omega)
      obtain ⟨b, o, rfl, hbB, hcell⟩ := hrr (by simpa using (by omega))
      have hc1 : wr.cell? ⟨b, o + k, none⟩ = some (.int .u8 (byt v k)) := by
        rw [hcell k (by simpa using (by omega)), le_get v n k (by omega)]
      have hfz := hown.freeAt k
      have hc3 : wr.cell? ⟨g, k, none⟩ = some (.int .u8 ((hib (v / 10) (k + 1) n)[k]?.getD 0)) := hown.cellAt (j := k) (by simp; omega)
      generalize (hib (v / 10) (k + 1) n)[k]?.getD 0 = old at hc3
      have hd := tenth_digit v k
      obtain ⟨d1, d2, d3, d4⟩ := hd
      have hO1 := hown.set_ (j := k) (byt (v / 10) k)
      rw [hib_set _ _ _ (by omega)] at hO1
      have hHO := Lib.hid hO1
      have hHB := Lib.hid (hbl.setCell (p := ⟨g, k, none⟩) (Nat.le_refl _) (.int .u8 (byt (v / 10) k)))
      have hxb := byt_b (v / 10) k
      have hvb := byt_b v k
      have hkk : (((k + 1 : Nat) : Int) - 1) = (k : Int) := by omega
      rw [hkk]
      clear hcell hrr hown hbl HR hO1
      go_wp2
      rw [d2]
      refine ⟨⟨k, by omega, rfl, rfl, hHO.out, hHB.out⟩, ?_⟩
      show (((k : Int) - 1) + 1).toNat < ((k : Int) + 1).toNat
      omega
end Go.Proofs.YtnkklmbmodkogaaDoor

/-! Fo1 -/
namespace Go.Proofs.YtnkklmbmodkogaaDoor
open Go.RowKit

set_option maxRecDepth 100000 in
set_option maxHeartbeats 1000000 in
theorem form_zero (w : World) :
    Calls Tryd.prog 40 #[.string ⟨([48]).toArray⟩] w fun e w' => e = .returned (.bool true) ∧ w = w' := by
  go_enter Tryd.func40, Tryd.ntmps40
  go_wp2_with (fail)
  go_ret
  exact ⟨rfl, rfl⟩
set_option maxRecDepth 100000 in
set_option maxHeartbeats 1000000 in
theorem form_nil (w : World) :
    Calls Tryd.prog 40 #[.string ⟨([]).toArray⟩] w fun e w' => e = .returned (.bool false) ∧ w = w' := by
  go_enter Tryd.func40, Tryd.ntmps40
  go_wp2_with (fail)
  go_ret
  exact ⟨rfl, rfl⟩
theorem drop_one (a : UInt8) (t : List UInt8) : (⟨(a :: t).toArray⟩ : ByteArray).extract 1 (t.length + 1) = ⟨t.toArray⟩ := by
  apply ByteArray.ext
  rw [ByteArray.data_extract]
  simp
set_option maxRecDepth 100000 in
set_option maxHeartbeats 1000000 in
theorem form_m (w : World) :
    Calls Tryd.prog 40 #[.string ⟨([45]).toArray⟩] w fun e w' => e = .returned (.bool false) ∧ w = w' := by
  have hx : (⟨(45 :: ([] : List UInt8)).toArray⟩ : ByteArray).extract 1 (([] : List UInt8).length + 1) = ⟨(([] : List UInt8)).toArray⟩ := drop_one 45 _
  simp only [List.length_nil] at hx
  go_enter Tryd.func40, Tryd.ntmps40
  go_wp2_with (fail)
  go_ret
  exact ⟨rfl, rfl⟩
set_option maxRecDepth 100000 in
set_option maxHeartbeats 1000000 in
theorem form_mz (c : UInt8) (t : List UInt8) (w : World) (h : c.toNat = 48) (hl : t.length ≤ 1000000) :
    Calls Tryd.prog 40 #[.string ⟨(45 :: c :: t).toArray⟩] w fun e w' => e = .returned (.bool false) ∧ w = w' := by
  have hx : (⟨(45 :: c :: t).toArray⟩ : ByteArray).extract 1 ((c :: t).length + 1) = ⟨(c :: t).toArray⟩ := drop_one 45 _
  simp only [List.length_cons] at hx
  have h1 : ((((⟨(c :: t).toArray⟩ : ByteArray)[0]'(Nat.zero_lt_succ _)).toNat : Int) == 48) = true := by show ((c.toNat : Int) == 48) = true; simp; omega
  clear h
  go_enter Tryd.func40, Tryd.ntmps40
  go_wp2_with (fail)
  go_ret
  exact ⟨rfl, rfl⟩
set_option maxRecDepth 100000 in
set_option maxHeartbeats 1000000 in
theorem form_md (c : UInt8) (t : List UInt8) (r : Bool) (hr : (c :: t).all digB = r) (w : World) (h : c.toNat ≠ 48) (hl : t.length ≤ 1000000) :
    Calls Tryd.prog 40 #[.string ⟨(45 :: c :: t).toArray⟩] w fun e w' => e = .returned (.bool r) ∧ w = w' := by
  have HRR := Lib.hid hr
  clear hr
  have hx : (⟨(45 :: c :: t).toArray⟩ : ByteArray).extract 1 ((c :: t).length + 1) = ⟨(c :: t).toArray⟩ := drop_one 45 _
  simp only [List.length_cons] at hx
  have h1 : ((((⟨(c :: t).toArray⟩ : ByteArray)[0]'(Nat.zero_lt_succ _)).toNat : Int) == 48) = false := by show ((c.toNat : Int) == 48) = false; simp; omega
  clear h
  go_enter Tryd.func40, Tryd.ntmps40
  go_wp2_with (fail)
  go_loop [3] (fun a => ∃ k : Nat, k ≤ (c :: t).length ∧ a = .int .i64 k ∧ Hid (firstD ⟨(c :: t).toArray⟩ k)) (fun a => (c :: t).length - (intOf a).toNat)
  case atStart => exact ⟨0, Nat.zero_le _, rfl, Lib.hid (fun j _ hj => absurd hj (by omega))⟩
  case round =>
    obtain ⟨k, hk, rfl, hf⟩ := hrel
    by_cases hlt : k < (c :: t).length
    · have hs : k < (⟨(c :: t).toArray⟩ : ByteArray).size := hlt
      have hi : (k : Int) < (t.length : Int) + 1 := by simp only [List.length_cons] at hlt; omega
      by_cases hd : digB ((⟨(c :: t).toArray⟩ : ByteArray)[k]'hs) = true
      · have hN := Lib.hid (show firstD ⟨(c :: t).toArray⟩ (k + 1) from fun j hj hjk => by
          rcases Nat.lt_or_ge j k with h | h
          · exact hf.out j hj h
          · obtain rfl : j = k := by omega
            exact hd)
        have hb : 48 ≤ ((⟨(c :: t).toArray⟩ : ByteArray)[k]'hs).toNat ∧ ((⟨(c :: t).toArray⟩ : ByteArray)[k]'hs).toNat ≤ 57 := by simpa [digB] using hd
        have d1 : decide ((((⟨(c :: t).toArray⟩ : ByteArray)[k]'hs).toNat : Int) < 48) = false := by simp; omega
        have d2 : decide ((57 : Int) < (((⟨(c :: t).toArray⟩ : ByteArray)[k]'hs).toNat : Int)) = false := by simp; omega
        clear hd hb
        go_wp2_with (fail)
        go_round
        case rel => exact ⟨k + 1, by omega, by go_num, hN⟩
        case measure => simp only [List.length_cons] at hlt ⊢; simp [intOf]; omega
      · have hN := Lib.hid (all_no (l := c :: t) hs (by simpa using hd))
        rcases Nat.lt_or_ge ((⟨(c :: t).toArray⟩ : ByteArray)[k]'hs).toNat 48 with h48 | h48
        · have d1 : decide ((((⟨(c :: t).toArray⟩ : ByteArray)[k]'hs).toNat : Int) < 48) = true := by simp; omega
          have d2 : (((⟨(c :: t).toArray⟩ : ByteArray)[k]'hs).toNat : Int) < 48 := by omega
          clear hd h48
          go_wp2_with (fail)
          go_ret
          exact ⟨ret_b (by rw [← HRR.out, hN.out]), rfl⟩
        · have hb : 57 < ((⟨(c :: t).toArray⟩ : ByteArray)[k]'hs).toNat := by
            rcases Nat.lt_or_ge 57 ((⟨(c :: t).toArray⟩ : ByteArray)[k]'hs).toNat with h | h
            · exact h
            · exact absurd (show digB ((⟨(c :: t).toArray⟩ : ByteArray)[k]'hs) = true by simp [digB, h48, h]) hd
          have d1 : decide ((((⟨(c :: t).toArray⟩ : ByteArray)[k]'hs).toNat : Int) < 48) = false := by simp; omega
          have d2 : decide ((57 : Int) < (((⟨(c :: t).toArray⟩ : ByteArray)[k]'hs).toNat : Int)) = true := by simp; omega
          have d3 : (57 : Int) < (((⟨(c :: t).toArray⟩ : ByteArray)[k]'hs).toNat : Int) := by omega
          clear hd h48 hb
          go_wp2_with (fail)
          go_ret
          exact ⟨ret_b (by rw [← HRR.out, hN.out]), rfl⟩
    · have hke : k = (c :: t).length := by omega
      have hN := Lib.hid (all_of (l := c :: t) (by rw [← hke]; exact hf.out))
      have hi : decide ((k : Int) < (t.length : Int) + 1) = false := by simp only [List.length_cons] at hke; simp; omega
      clear hke hlt
      go_wp2_with (fail)
      go_ret
      exact ⟨ret_b (by rw [← HRR.out, hN.out]), rfl⟩
set_option maxRecDepth 100000 in
set_option maxHeartbeats 1000000 in
theorem form_z (c d : UInt8) (t : List UInt8) (w : World) (h : c.toNat = 48) (hl : t.length ≤ 1000000) :
    Calls Tryd.prog 40 #[.string ⟨(c :: d :: t).toArray⟩] w fun e w' => e = .returned (.bool false) ∧ w = w' := by
  have h1 : ((((⟨(c :: d :: t).toArray⟩ : ByteArray)[0]'(Nat.zero_lt_succ _)).toNat : Int) == 48) = true := by show ((c.toNat : Int) == 48) = true; simp; omega
  have h2 : ((((⟨(c :: d :: t).toArray⟩ : ByteArray)[0]'(Nat.zero_lt_succ _)).toNat : Int) == 45) = false := by show ((c.toNat : Int) == 45) = false; simp; omega
  clear h
  go_enter Tryd.func40, Tryd.ntmps40
  go_wp2_with (fail)
  go_ret
  exact ⟨rfl, rfl⟩
set_option maxRecDepth 100000 in
set_option maxHeartbeats 1000000 in
theorem form_d (c : UInt8) (t : List UInt8) (r : Bool) (hr : (c :: t).all digB = r) (w : World) (h : c.toNat ≠ 48) (h' : c.toNat ≠ 45) (hl : t.length ≤ 1000000) :
    Calls Tryd.prog 40 #[.string ⟨(c :: t).toArray⟩] w fun e w' => e = .returned (.bool r) ∧ w = w' := by
  have HRR := Lib.hid hr
  clear hr
  have h1 : ((((⟨(c :: t).toArray⟩ : ByteArray)[0]'(Nat.zero_lt_succ _)).toNat : Int) == 48) = false := by show ((c.toNat : Int) == 48) = false; simp; omega
  have h2 : ((((⟨(c :: t).toArray⟩ : ByteArray)[0]'(Nat.zero_lt_succ _)).toNat : Int) == 45) = false := by show ((c.toNat : Int) == 45) = false; simp; omega
  have h3 : ((c :: t : List UInt8) == [48]) = false := by
    simp only [beq_eq_false_iff_ne]
    intro e
    simp only [List.cons.injEq] at e
    exact h (by rw [e.1]; rfl)
  clear h h'
  go_enter Tryd.func40, Tryd.ntmps40
  go_wp2_with (fail)
  go_loop [3] (fun a => ∃ k : Nat, k ≤ (c :: t).length ∧ a = .int .i64 k ∧ Hid (firstD ⟨(c :: t).toArray⟩ k)) (fun a => (c :: t).length - (intOf a).toNat)
  case atStart => exact ⟨0, Nat.zero_le _, rfl, Lib.hid (fun j _ hj => absurd hj (by omega))⟩
  case round =>
    obtain ⟨k, hk, rfl, hf⟩ := hrel
    by_cases hlt : k < (c :: t).length
    · have hs : k < (⟨(c :: t).toArray⟩ : ByteArray).size := hlt
      have hi : (k : Int) < (t.length : Int) + 1 := by simp only [List.length_cons] at hlt; omega
      by_cases hd : digB ((⟨(c :: t).toArray⟩ : ByteArray)[k]'hs) = true
      · have hN := Lib.hid (show firstD ⟨(c :: t).toArray⟩ (k + 1) from fun j hj hjk => by
          rcases Nat.lt_or_ge j k with h | h
          · exact hf.out j hj h
          · obtain rfl : j = k := by omega
            exact hd)
        have hb : 48 ≤ ((⟨(c :: t).toArray⟩ : ByteArray)[k]'hs).toNat ∧ ((⟨(c :: t).toArray⟩ : ByteArray)[k]'hs).toNat ≤ 57 := by simpa [digB] using hd
        have d1 : decide ((((⟨(c :: t).toArray⟩ : ByteArray)[k]'hs).toNat : Int) < 48) = false := by simp; omega
        have d2 : decide ((57 : Int) < (((⟨(c :: t).toArray⟩ : ByteArray)[k]'hs).toNat : Int)) = false := by simp; omega
        clear hd hb
        go_wp2_with (fail)
        go_round
        case rel => exact ⟨k + 1, by omega, by go_num, hN⟩
        case measure => simp only [List.length_cons] at hlt ⊢; simp [intOf]; omega
      · have hN := Lib.hid (all_no (l := c :: t) hs (by simpa using hd))
        rcases Nat.lt_or_ge ((⟨(c :: t).toArray⟩ : ByteArray)[k]'hs).toNat 48 with h48 | h48
        · have d1 : decide ((((⟨(c :: t).toArray⟩ : ByteArray)[k]'hs).toNat : Int) < 48) = true := by simp; omega
          have d2 : (((⟨(c :: t).toArray⟩ : ByteArray)[k]'hs).toNat : Int) < 48 := by omega
          clear hd h48
          go_wp2_with (fail)
          go_ret
          exact ⟨ret_b (by rw [← HRR.out, hN.out]), rfl⟩
        · have hb : 57 < ((⟨(c :: t).toArray⟩ : ByteArray)[k]'hs).toNat := by
            rcases Nat.lt_or_ge 57 ((⟨(c :: t).toArray⟩ : ByteArray)[k]'hs).toNat with h | h
            · exact h
            · exact absurd (show digB ((⟨(c :: t).toArray⟩ : ByteArray)[k]'hs) = true by simp [digB, h48, h]) hd
          have d1 : decide ((((⟨(c :: t).toArray⟩ : ByteArray)[k]'hs).toNat : Int) < 48) = false := by simp; omega
          have d2 : decide ((57 : Int) < (((⟨(c :: t).toArray⟩ : ByteArray)[k]'hs).toNat : Int)) = true := by simp; omega
          have d3 : (57 : Int) < (((⟨(c :: t).toArray⟩ : ByteArray)[k]'hs).toNat : Int) := by omega
          clear hd h48 hb
          go_wp2_with (fail)
          go_ret
          exact ⟨ret_b (by rw [← HRR.out, hN.out]), rfl⟩
    · have hke : k = (c :: t).length := by omega
      have hN := Lib.hid (all_of (l := c :: t) (by rw [← hke]; exact hf.out))
      have hi : decide ((k : Int) < (t.length : Int) + 1) = false := by simp only [List.length_cons] at hke; simp; omega
      clear hke hlt
      go_wp2_with (fail)
      go_ret
      exact ⟨ret_b (by rw [← HRR.out, hN.out]), rfl⟩
theorem u8_of {c : UInt8} {n : Nat} (h : c.toNat = n) (hn : n < 256) : c = UInt8.ofNat n := by
  apply UInt8.toNat_inj.1
  rw [h, UInt8.toNat_ofNat_of_lt' (by show n < 256; exact hn)]
theorem parD_minus (t : List UInt8) : parN (45 :: t) = true ∧ parD (45 :: t) = t := by
  have h : Lib.hasPrefix (45 :: t) [45] = true := by simp [Lib.hasPrefix]
  refine ⟨h, ?_⟩
  unfold parD Lib.trimPrefix
  rw [if_pos h]; rfl
theorem parD_plain {c : UInt8} {t : List UInt8} (hc : c.toNat ≠ 45) : parN (c :: t) = false ∧ parD (c :: t) = c :: t := by
  have hne : c ≠ 45 := fun e => hc (by rw [e]; rfl)
  have h : Lib.hasPrefix (c :: t) [45] = false := by
    show (45 == c && true) = false
    rw [show ((45 : UInt8) == c) = false from by simpa using Ne.symm hne]; rfl
  refine ⟨h, ?_⟩
  unfold parD Lib.trimPrefix
  rw [if_neg (by rw [h]; simp)]
theorem form_any (l : List UInt8) (w : World) (hl : l.length ≤ 300) : Calls Tryd.prog 40 #[.string ⟨l.toArray⟩] w fun e w' => e = .returned (.bool (parOk l)) ∧ w = w' := by
  match l, hl with
  | [], _ => rw [show parOk [] = false from by decide]; exact form_nil w
  | c :: t, hl =>
    simp only [List.length_cons] at hl
    by_cases h45 : c.toNat = 45
    · obtain rfl : c = 45 := u8_of (n := 45) h45 (by decide)
      obtain ⟨e1, e2⟩ := parD_minus t
      match t, hl, e1, e2 with
      | [], _, _, _ => rw [show parOk [45] = false from by decide]; exact form_m w
      | d :: t, hl, e1, e2 =>
        simp only [List.length_cons] at hl
        unfold parOk
        rw [e1, e2]
        by_cases h48 : d.toNat = 48
        · have : (decB (d :: t) && !(true && decide (d :: t = [48]))) = false := by
            cases t with
            | nil => obtain rfl : d = 48 := u8_of (n := 48) h48 (by decide); simp
            | cons x t => rw [decB_zero h48 (by simp)]; rfl
          rw [this]
          exact form_mz d t w h48 (by omega)
        · have hne : ¬ d :: t = [48] := fun e => h48 (by simp only [List.cons.injEq] at e; rw [e.1]; rfl)
          rw [decB_loop (fun h => h48 h.1), decide_eq_false hne]
          simp only [Bool.and_false, Bool.not_false, Bool.and_true]
          exact form_md d t _ rfl w h48 (by omega)
    · obtain ⟨e1, e2⟩ := parD_plain (t := t) h45
      unfold parOk
      rw [e1, e2]
      simp only [Bool.false_and, Bool.not_false, Bool.and_true]
      by_cases h48 : c.toNat = 48
      · match t, hl with
        | [], _ => obtain rfl : c = 48 := u8_of (n := 48) h48 (by decide); rw [show decB [48] = true from by decide]; exact form_zero w
        | d :: t, hl =>
          simp only [List.length_cons] at hl
          rw [decB_zero h48 (by simp)]
          exact form_z c d t w h48 (by omega)
      · rw [decB_loop (fun h => h48 h.1)]
        exact form_d c t _ rfl w h48 h45 (by omega)
end Go.Proofs.YtnkklmbmodkogaaDoor

/-! Rd1 -/
namespace Go.Proofs.YtnkklmbmodkogaaDoor
open Go.RowKit

/-- The digits among the bytes: all but '-'. -/
def fd (l : List UInt8) : List UInt8 := l.filter (fun c => c != 45)
theorem fd_snoc_minus (l : List UInt8) : fd (l ++ [45]) = fd l := by simp [fd]
theorem fd_snoc {l : List UInt8} {c : UInt8} (h : c ≠ 45) : fd (l ++ [c]) = fd l ++ [c] := by simp [fd, h]
theorem fd_digits {l : List UInt8} (h : l.all digB = true) : fd l = l := by
  unfold fd
  rw [List.filter_eq_self]
  intro c hc
  have := (List.all_eq_true.1 h) c hc
  simp only [digB, Bool.and_eq_true, decide_eq_true_eq] at this
  simp only [bne_iff_ne, ne_eq]
  rintro rfl
  have := this.1
  simp at this
theorem decV_lt_take {l : List UInt8} (h : l.all digB = true) : ∀ k, k ≤ l.length → decV (l.take k) < 10 ^ k
  | 0, _ => by simp [decV]
  | k + 1, hk => by
    have h1 := decV_lt_take h k (by omega)
    have h2 := (List.all_eq_true.1 h) (l[k]'(by omega)) (List.getElem_mem _)
    simp only [digB, Bool.and_eq_true, decide_eq_true_eq] at h2
    rw [decV_take (by omega), Nat.pow_succ]
    omega
theorem decV_lt {l : List UInt8} (h : l.all digB = true) : decV l < 10 ^ l.length := by
  have := decV_lt_take h l.length (Nat.le_refl _)
  rwa [List.take_length] at this
theorem decV_blen {l : List UInt8} (h : l.all digB = true) : blen (decV l) ≤ l.length := by
  refine blen_le (Nat.lt_of_lt_of_le (decV_lt h) ?_)
  exact Nat.pow_le_pow_left (by omega) _
/-- What the reference reads: a sign, then digits. -/
def ReadOk (l : List UInt8) : Prop := ∀ c ∈ l, c = 45 ∨ digB c = true
theorem fd_all {l : List UInt8} (h : ReadOk l) : (fd l).all digB = true := by
  rw [List.all_eq_true]
  intro c hc
  unfold fd at hc
  rw [List.mem_filter] at hc
  rcases h c hc.1 with e | e
  · subst e; simp at hc
  · exact e
theorem readOk_take {l : List UInt8} (h : ReadOk l) (k : Nat) : ReadOk (l.take k) := fun c hc => h c (List.mem_of_mem_take hc)
theorem fd_len (l : List UInt8) : (fd l).length ≤ l.length := List.length_filter_le _ _
/-- One byte in a block, as a natural number. -/
theorem bys_cell {w : World} {b : Nat} {T : TypeId} {x : Int} {v : Nat} (h : Var w b T #[.int .u8 x]) (hx : x = (v : Int)) (hv : v < 256) : Bys w w.heap.size (some ⟨b, 0, none⟩) (le v 1) := fun _ => by
  refine ⟨b, 0, rfl, h.lt, fun k hk => ?_⟩
  simp only [le_len] at hk
  obtain rfl : k = 0 := by omega
  rw [le_get _ _ _ (by omega), Nat.zero_add, h.cell, hx]
  have : byt v 0 = (v : Int) := by unfold byt; rw [Nat.pow_zero, Nat.div_one, Nat.mod_eq_of_lt hv]
  rw [this]
  rfl
theorem nat_cell {w : World} {b : Nat} {T : TypeId} (h : Var w b T #[.int .u8 10]) : NatIs w w.heap.size (.slice (some ⟨b, 0, none⟩) 1 1) 10 := by
  have e : blen 10 = 1 := by decide
  exact ⟨_, 1, by rw [e], by rw [e]; omega, by decide, by rw [e]; exact bys_cell h rfl (by omega)⟩
theorem nat_trimmed {w : World} {b : Nat} {d : Nat} (h : Bys w w.heap.size (some ⟨b, 0, none⟩) (le d 1)) (hd : d < 256) : NatIs w w.heap.size (.slice (some ⟨b, 0, none⟩) (blen d) 1) d := by
  have hl : blen d ≤ 1 := blen_le (by omega)
  refine ⟨_, 1, rfl, hl, by decide, fun h0 => ?_⟩
  simp only [le_len] at h0
  have e : blen d = 1 := by omega
  rw [e]
  exact h (by simp)

set_option maxRecDepth 100000 in
set_option maxHeartbeats 4000000 in
theorem read_any (l : List UInt8) (w : World) (h0 : l ≠ []) (hl : l.length ≤ 300) (hok : ReadOk l) :
    Calls Tryd.prog 41 #[.string ⟨l.toArray⟩] w (RetInt w (sgn (l.head? == some 45) (decV (fd l)))) := by
  obtain ⟨c, t, rfl⟩ := List.exists_cons_of_ne_nil h0
  obtain ⟨hv0, hbW, hsz⟩ := boxes1 w 24 #[.bool false, .slice none 0 0]
  have HV := Lib.hid hv0
  have HB := Lib.hid hbW
  have HOK := Lib.hid hok
  have hl2 : (t.length : Int) + 1 ≤ 300 := by simp only [List.length_cons] at hl; omega
  obtain ⟨ng, hng⟩ : ∃ ng, ng = ((c :: t).head? == some 45) := ⟨_, rfl⟩
  have hng2 : ((((⟨(c :: t).toArray⟩ : ByteArray)[0]'(Nat.zero_lt_succ _)).toNat : Int) == 45) = ng := by
    rw [hng]
    show ((c.toNat : Int) == 45) = (some c == some 45)
    by_cases h : c = 45
    · subst h; rfl
    · have : c.toNat ≠ 45 := fun e => h (by have := u8_of (n := 45) e (by decide); exact this)
      have e1 : ((c.toNat : Int) == 45) = false := by simp; omega
      have e2 : (some c == some (45 : UInt8)) = false := by simpa using h
      rw [e1, e2]
  rw [← hng]
  have HL := Lib.hid hl
  clear hv0 hbW hsz h0 hok hng hl
  go_enter Tryd.func41, Tryd.ntmps41
  go_wp2_with (fail)
  go_loopw [4, 5] (fun x i wr => ∃ k : Nat, k ≤ (c :: t).length ∧ i = .int .i64 k ∧ Hid (NatIs wr wr.heap.size x (decV (fd ((c :: t).take k)))) ∧ Hid (Var wr w.heap.size 24 #[.bool false, .slice none 0 0]) ∧ Hid (Below w.heap.size w wr)) (fun _ i _ => (c :: t).length - (intOf i).toNat)
  case atStart => exact ⟨0, Nat.zero_le _, rfl, Lib.hid ⟨none, 0, by simp [fd, decV, blen_zero], by simp [fd, decV, blen_zero], Nat.zero_le _, fun h => by simp [fd, decV, blen_zero] at h⟩, HV, HB⟩
  case round =>
    obtain ⟨k, hk, rfl, hn, hv, hb⟩ := hrel
    clear HV HB
    have HNB := Lib.hid (show blen (decV (fd ((c :: t).take k))) ≤ 300 from Nat.le_trans (decV_blen (fd_all (readOk_take HOK.out k))) (Nat.le_trans (fd_len _) (Nat.le_trans (by rw [List.length_take]; exact Nat.min_le_right _ _) HL.out)))
    by_cases hlt : k < (c :: t).length
    · have hs : k < (⟨(c :: t).toArray⟩ : ByteArray).size := hlt
      have hi : (k : Int) < (t.length : Int) + 1 := by simp only [List.length_cons] at hlt; omega
      have hel : (⟨(c :: t).toArray⟩ : ByteArray)[k]'hs = (c :: t)[k] := rfl
      have htk : (c :: t).take (k + 1) = (c :: t).take k ++ [(c :: t)[k]] := List.take_succ_eq_append_getElem hlt
      have hor := HOK.out _ (List.getElem_mem hlt)
      generalize hx : (⟨(c :: t).toArray⟩ : ByteArray)[k]'hs = x at *
      rw [← hel] at hor htk
      by_cases h45 : x = 45
      · have hd : ((x.toNat : Int) == 45) = true := by rw [h45]; rfl
        have HN := Lib.hid (show decV (fd ((c :: t).take (k + 1))) = decV (fd ((c :: t).take k)) by rw [htk, h45, fd_snoc_minus])
        have HX := Lib.hid hx
        have hx' : (((⟨(c :: t).toArray⟩ : ByteArray)[k]'hs).toNat : Int) = (x.toNat : Int) := by rw [hx]
        clear hel htk hor h45 hx
        go_wp2_with (fail)
        go_roundw
        case rel => exact ⟨k + 1, by omega, by go_num, by rw [HN.out]; exact hn, hv, hb⟩
        case measure => simp only [List.length_cons] at hlt ⊢; simp [intOf]; omega
      · have hdg : digB x = true := by
          rcases hor with e | e
          · exact absurd e h45
          · exact e
        simp only [digB, Bool.and_eq_true, decide_eq_true_eq] at hdg
        obtain ⟨d, hd0⟩ : ∃ d, d = x.toNat - 48 := ⟨_, rfl⟩
        have hd : ((x.toNat : Int) == 45) = false := by simp; omega
        have hw : IntKind.u8.wrap ((x.toNat : Int) - 48) = (d : Int) := by rw [IntKind.wrap_u8]; omega
        have HN := Lib.hid (show decV (fd ((c :: t).take (k + 1))) = decV (fd ((c :: t).take k)) * 10 + d by rw [htk, fd_snoc h45, decV_snoc, hd0])
        have HD := Lib.hid (show d < 256 by omega)
        have hx' : (((⟨(c :: t).toArray⟩ : ByteArray)[k]'hs).toNat : Int) = (x.toNat : Int) := by rw [hx]
        clear hel htk hor h45 hx hdg hd0
        go_wp2_with (fail)
        generalize hV : decV (fd ((c :: t).take k)) = V at *
        clear hV
        have HB10 := Lib.hid (show blen (V * 10) < 1000000 from Nat.lt_of_le_of_lt (blen_mul (b := 301) (by rw [show blen 10 = 1 from by decide]; have := HNB.out; omega)) (by omega))
        have HBD := Lib.hid (show blen d < 1000000 from Nat.lt_of_le_of_lt (blen_le (n := 1) (by have := HD.out; omega)) (by omega))
        have HBV := Lib.hid (show blen V < 1000000 from Nat.lt_of_le_of_lt HNB.out (by omega))
        have HB1 := Lib.hid (show blen 10 < 1000000 from by decide)
        have HD1 := Lib.hid (show d < 256 ^ 1 from by have := HD.out; omega)
        have HM1 := Lib.hid (show (1 : Nat) ≤ maxLen from by decide)
        go_region_held3 (fun _ => True) (trivial)
          (first
            | (go_at_call 55; refine (times_nat _ _ V 10 _ ?_ ?_ HBV.out HB1.out).mono ?_; (first | exact hn.out.next (below_alloc wr _).drew | exact hn.out.next (bal (below_alloc wr _) _).drew); (first | exact nat_cell (Var.new wr 5 #[.int .u8 10]) | exact nat_cell (boxes2 wr 5 5 #[.int .u8 (d : Int)] #[.int .u8 10]).2.1 | exact nat_cell (boxes2 wr 5 5 #[.int .u8 10] #[.int .u8 (d : Int)]).1); rintro e w2 ⟨⟨x1, rfl, n1⟩, hq⟩; (first | have hB := bstep (below_alloc wr _).drew hq | have hB := bstep (bal (below_alloc wr _) _).drew hq); (first | have hD := Var.below (w := ((wr.alloc (.cells #[.int .u8 10] 5)).alloc (.cells #[.int .u8 (d : Int)] 5)).drew) (boxes2 wr 5 5 #[.int .u8 10] #[.int .u8 (d : Int)]).2.1 hq (by simp) | have hD := Var.below (w := ((wr.alloc (.cells #[.int .u8 (d : Int)] 5)).alloc (.cells #[.int .u8 10] 5)).drew) (boxes2 wr 5 5 #[.int .u8 (d : Int)] #[.int .u8 10]).1 hq (by simp; omega) | skip); clear hq)
            | (go_at_call 67; (first | (refine (trim_any _ 1 1 d _ _ (bys_cell hD rfl HD.out) HD1.out (Nat.le_refl _) HM1.out).mono ?_; have n2 := nat_trimmed (bys_cell hD rfl HD.out) HD.out; have n1' := n1) | (have hD := Var.new w2 5 #[.int .u8 (d : Int)]; refine (trim_any _ 1 1 d _ _ (bys_cell hD rfl HD.out) HD1.out (Nat.le_refl _) HM1.out).mono ?_; have n2 := nat_trimmed (bys_cell hD rfl HD.out) HD.out; have n1' := n1.next (below_alloc w2 (.cells #[.int .u8 (d : Int)] 5)); have hB := bal hB (.cells #[.int .u8 (d : Int)] 5))); rintro e w' ⟨rfl, rfl⟩)
            | (go_at_call 53; refine (plus_nat _ _ (V * 10) d _ n1' n2 HB10.out HBD.out).mono ?_; rintro e w3 ⟨⟨x3, rfl, n3⟩, hq⟩; have hB := bstep hB hq; clear hq))
        all_goals
          have HN3 := Lib.hid n3
          have HV3 := Lib.hid (hv.out.below hB hv.out.lt)
          have HB3 := Lib.hid (bstep hb.out hB)
          clear n3 hB n1 n2 n1' hD
          go_wp2_with (fail)
          go_roundw
          case rel => exact ⟨k + 1, by omega, by go_num, by rw [HN.out]; exact HN3, HV3, HB3⟩
          case measure => simp only [List.length_cons] at hlt ⊢; simp [intOf]; omega
    · have hke : k = (c :: t).length := by omega
      have hi : decide ((k : Int) < (t.length : Int) + 1) = false := by simp only [List.length_cons] at hke; simp; omega
      rw [hke, List.take_length] at hn HNB
      have hv0 := hv.out.cell 0
      have hv1 := hv.out.cell 1
      simp only [List.getElem?_toArray, List.getElem?_cons_succ, List.getElem?_cons_zero] at hv0 hv1
      clear hke hlt
      go_wp2_with (fail)
      clear hv0 hv1
      refine (make_nat ng _ _ _ hn.out (Nat.lt_of_le_of_lt HNB.out (by omega))).mono ?_
      rintro e w2 ⟨⟨x, rfl, hi2⟩, hq⟩
      obtain ⟨f2, A2, n2, c2, rfl, hi3, -, -⟩ := hi2.look
      have hv2 := hv.out.below hq hv.out.lt
      have s0 := hv2.cell 0; have s1 := hv2.cell 1; have t0 := hv2.free 0; have t1 := hv2.free 1
      simp only [List.getElem?_toArray, List.getElem?_cons_succ, List.getElem?_cons_zero] at s0 s1
      have HX := Lib.hid (retInt_store hi3 hv2 (bstep hb.out hq) (Nat.le_refl _))
      clear hi2 hi3 hv2 hq
      go_wp2_with (fail)
      exact bodyPost_ret (by simp [results, Tryd.results41, go_sem, s0, s1]) rfl HX.out
end Go.Proofs.YtnkklmbmodkogaaDoor

/-! Sp1 -/
namespace Go.Proofs.YtnkklmbmodkogaaDoor
open Go.RowKit

theorem Own.below' {w w' : World} {B : Nat} {v : Value} {ds : List Int} (h : Own w B v ds) (hb : Below w.heap.size w w') : Own w' B v ds := by
  refine ⟨h.1, ?_⟩
  rcases h.2 with h2 | ⟨g, cap, cur, e, hbg, hg, r⟩
  · exact .inl h2
  · exact .inr ⟨g, cap, cur, e, hbg, (hb.block g (Array.getElem?_eq_some_iff.1 hg).1).trans hg, r⟩
/-- The digit of u at i. -/
def bitN (u i : Nat) : Nat := u / 2 ^ i % 2
theorem bitN_le (u i : Nat) : bitN u i ≤ 1 := by unfold bitN; omega
theorem pow8 (j m : Nat) : (2 : Nat) ^ (8 * j + m) = 256 ^ j * 2 ^ m := by rw [Nat.pow_add, Nat.pow_mul]
theorem bit_byte (u j m : Nat) (hm : m < 8) : u / 256 ^ j % 256 / 2 ^ m % 2 = bitN u (8 * j + m) := by
  unfold bitN
  rw [pow8, ← Nat.div_div_eq_div_mul]
  generalize u / 256 ^ j = x
  have : m = 0 ∨ m = 1 ∨ m = 2 ∨ m = 3 ∨ m = 4 ∨ m = 5 ∨ m = 6 ∨ m = 7 := by omega
  rcases this with rfl | rfl | rfl | rfl | rfl | rfl | rfl | rfl <;> simp <;> omega
/-- One digit more. -/
theorem split_step (u v i : Nat) (hv : 0 < v) :
    let R2 := 2 * (u / 2 ^ (i + 1) % v) + bitN u i
    (v ≤ R2 → u / 2 ^ i % v = R2 - v ∧ u / 2 ^ i / v = 2 * (u / 2 ^ (i + 1) / v) + 1) ∧ (R2 < v → u / 2 ^ i % v = R2 ∧ u / 2 ^ i / v = 2 * (u / 2 ^ (i + 1) / v)) := by
  intro R2
  have e1 : u / 2 ^ (i + 1) = u / 2 ^ i / 2 := by rw [Nat.pow_succ, Nat.div_div_eq_div_mul]
  have e2 : R2 = 2 * (u / 2 ^ (i + 1) % v) + u / 2 ^ i % 2 := rfl
  rw [e2, e1]
  generalize u / 2 ^ i = x
  have h1 := Nat.div_add_mod (x / 2) v
  have h2 := Nat.mod_lt (x / 2) hv
  generalize hQ : x / 2 / v = Q at *
  generalize hR : x / 2 % v = R at *
  have h3 : v * (2 * Q) = 2 * (v * Q) := by rw [Nat.mul_left_comm]
  have h4 : v * (2 * Q + 1) = 2 * (v * Q) + v := by rw [Nat.mul_add, h3, Nat.mul_one]
  constructor
  · intro h
    have hx : x = (2 * R + x % 2 - v) + v * (2 * Q + 1) := by omega
    refine ⟨?_, ?_⟩
    · have := Nat.add_mul_mod_self_left (2 * R + x % 2 - v) v (2 * Q + 1)
      rw [← hx] at this
      rw [this, Nat.mod_eq_of_lt (by omega)]
    · have := Nat.add_mul_div_left (2 * R + x % 2 - v) (2 * Q + 1) hv
      rw [← hx] at this
      rw [this, Nat.div_eq_of_lt (by omega)]; omega
  · intro h
    have hx : x = (2 * R + x % 2) + v * (2 * Q) := by omega
    refine ⟨?_, ?_⟩
    · have := Nat.add_mul_mod_self_left (2 * R + x % 2) v (2 * Q)
      rw [← hx] at this
      rw [this, Nat.mod_eq_of_lt (by omega)]
    · have := Nat.add_mul_div_left (2 * R + x % 2) (2 * Q) hv
      rw [← hx] at this
      rw [this, Nat.div_eq_of_lt (by omega)]; omega
theorem split_next {u v i R d X : Nat} (hv : 0 < v) (hR : u / 2 ^ (i + 1) % v = R) (hd : bitN u i = d) (hX : X = 2 * R + d) :
    (v ≤ X → u / 2 ^ i % v = X - v ∧ bitN (u / v) i = 1) ∧ (X < v → u / 2 ^ i % v = X ∧ bitN (u / v) i = 0) := by
  have h := split_step u v i hv
  have hb : bitN (u / v) i = u / 2 ^ i / v % 2 := by unfold bitN; rw [Nat.div_div_eq_div_mul, Nat.div_div_eq_div_mul, Nat.mul_comm]
  simp only [hR, hd, ← hX] at h
  rw [hb]
  exact ⟨fun g => ⟨(h.1 g).1, by rw [(h.1 g).2]; omega⟩, fun g => ⟨(h.2 g).1, by rw [(h.2 g).2]; omega⟩⟩
theorem cmpN_ge0 {a b : Nat} (h : b ≤ a) : decide (0 ≤ cmpN a b) = true := by
  have : 0 ≤ cmpN a b := by unfold cmpN; split <;> (try split) <;> omega
  exact decide_eq_true this
theorem cmpN_lt0 {a b : Nat} (h : a < b) : decide (0 ≤ cmpN a b) = false := by
  have : ¬ 0 ≤ cmpN a b := by unfold cmpN; rw [if_pos h]; omega
  exact decide_eq_false this
/-- The digits of q from i on. -/
def qhi (q i : Nat) : Nat := q / 2 ^ i * 2 ^ i
theorem qhi_zero (q : Nat) : qhi q 0 = q := by simp [qhi]
theorem qhi_le (q i : Nat) : qhi q i ≤ q := Nat.div_mul_le_self _ _
theorem qhi_big {q i : Nat} (h : q < 2 ^ i) : qhi q i = 0 := by unfold qhi; rw [Nat.div_eq_of_lt h, Nat.zero_mul]
theorem qhi_step (q i : Nat) : qhi q i = qhi q (i + 1) + bitN q i * 2 ^ i := by
  unfold qhi bitN
  have e1 : q / 2 ^ (i + 1) = q / 2 ^ i / 2 := by rw [Nat.pow_succ, Nat.div_div_eq_div_mul]
  rw [e1, Nat.pow_succ]
  generalize q / 2 ^ i = x
  rw [show x / 2 * (2 ^ i * 2) = (x / 2 * 2) * 2 ^ i by rw [Nat.mul_assoc, Nat.mul_comm 2, Nat.mul_comm (2 ^ i)], ← Nat.add_mul]
  congr 1; omega
/-- Setting the digit 8 j + m in byte j. -/
theorem byte_or (q j m : Nat) (hm : m < 8) : (qhi q (8 * j + m + 1) / 256 ^ j % 256) ||| 2 ^ m = (qhi q (8 * j + m + 1) + 2 ^ (8 * j + m)) / 256 ^ j % 256 ∧ (qhi q (8 * j + m + 1) / 256 ^ j % 256) + 2 ^ m < 256 := by
  have hp : 0 < 256 ^ j := Nat.pow_pos (by omega)
  have e1 : qhi q (8 * j + m + 1) = 256 ^ j * (q / 2 ^ (8 * j + m + 1) * 2 ^ (m + 1)) := by
    unfold qhi; rw [show 8 * j + m + 1 = 8 * j + (m + 1) by omega, pow8, Nat.mul_left_comm]
  have e2 : qhi q (8 * j + m + 1) + 2 ^ (8 * j + m) = 256 ^ j * (q / 2 ^ (8 * j + m + 1) * 2 ^ (m + 1) + 2 ^ m) := by
    rw [e1, pow8, Nat.mul_add]
  rw [e2, e1, Nat.mul_div_cancel_left _ hp, Nat.mul_div_cancel_left _ hp]
  generalize q / 2 ^ (8 * j + m + 1) = x
  have : m = 0 ∨ m = 1 ∨ m = 2 ∨ m = 3 ∨ m = 4 ∨ m = 5 ∨ m = 6 ∨ m = 7 := by omega
  have key : ∀ (a : Nat), x * 2 ^ (m + 1) % 256 + 2 ^ m < 256 → (x * 2 ^ (m + 1) % 256) ||| 2 ^ m = x * 2 ^ (m + 1) % 256 + 2 ^ m := fun _ h => by
    have h1 : x * 2 ^ (m + 1) % 256 = 2 ^ (m + 1) * (x * 2 ^ (m + 1) % 256 / 2 ^ (m + 1)) := by
      have : 2 ^ (m + 1) ∣ x * 2 ^ (m + 1) % 256 := by
        rcases this with rfl | rfl | rfl | rfl | rfl | rfl | rfl | rfl <;> simp <;> omega
      rw [Nat.mul_div_cancel' this]
    rw [h1, ← Nat.two_pow_add_eq_or_of_lt (Nat.pow_lt_pow_right (by omega) (Nat.lt_succ_self m))]
  have hlt : x * 2 ^ (m + 1) % 256 + 2 ^ m < 256 := by
    rcases this with rfl | rfl | rfl | rfl | rfl | rfl | rfl | rfl <;> simp <;> omega
  rw [key 0 hlt]
  refine ⟨?_, hlt⟩
  rcases this with rfl | rfl | rfl | rfl | rfl | rfl | rfl | rfl <;> simp at hlt ⊢ <;> omega
theorem bv8 (x : Nat) (h : x < 256) : (BitVec.ofInt 8 (x : Int)).toNat = x := by
  rw [BitVec.toNat_ofInt]; omega
theorem u8_and1 (x : Nat) (h : x < 256) : bits .and .u8 (x : Int) 1 = ((x % 2 : Nat) : Int) := by
  have h1 : (BitVec.ofInt 8 1).toNat = 2 ^ 1 - 1 := by decide
  show IntKind.u8.wrap ((BitVec.ofInt 8 (x : Int) &&& BitVec.ofInt 8 1).toNat : Nat) = _
  rw [BitVec.toNat_and, bv8 x h, h1, Nat.and_two_pow_sub_one_eq_mod, IntKind.wrap_u8]
  omega
theorem u8_or (x y : Nat) (h : x < 256) (h1 : y < 256) (h2 : x ||| y < 256) : bits .or .u8 (x : Int) (y : Int) = ((x ||| y : Nat) : Int) := by
  show IntKind.u8.wrap ((BitVec.ofInt 8 (x : Int) ||| BitVec.ofInt 8 (y : Int)).toNat : Nat) = _
  rw [BitVec.toNat_or, bv8 x h, bv8 y h1, IntKind.wrap_u8]
  omega
theorem pow_wrap (i : Nat) : IntKind.u8.wrap (2 ^ (i % 8)) = 2 ^ (i % 8) := by
  have : i % 8 = 0 ∨ i % 8 = 1 ∨ i % 8 = 2 ∨ i % 8 = 3 ∨ i % 8 = 4 ∨ i % 8 = 5 ∨ i % 8 = 6 ∨ i % 8 = 7 := by omega
  rcases this with e | e | e | e | e | e | e | e <;> rw [e] <;> rfl
theorem pow_256 (i : Nat) : (2 : Int) ^ (i % 8) % 256 = 2 ^ (i % 8) := by
  have := pow_wrap i
  rwa [IntKind.wrap_u8] at this
/-- The test of a bit, as the walk has it. -/
theorem bit_test (u i : Nat) : bits .and .u8 (byt u (i / 8) / 2 ^ (i % 8)) 1 = (bitN u i : Int) := by
  have h := bit_byte u (i / 8) (i % 8) (Nat.mod_lt _ (by omega))
  rw [show 8 * (i / 8) + i % 8 = i by omega] at h
  unfold byt
  rw [div_pow_cast, u8_and1 _ (Nat.lt_of_le_of_lt (Nat.div_le_self _ _) (Nat.mod_lt _ (by omega))), h]
theorem bit_set (q i n : Nat) (_h : i / 8 < n) (hb : bitN q i = 1) :
    (le (qhi q (i + 1)) n).set (i / 8) (bits .or .u8 (byt (qhi q (i + 1)) (i / 8)) (2 ^ (i % 8))) = le (qhi q i) n := by
  have h8 : i % 8 < 8 := Nat.mod_lt _ (by omega)
  have hi : 8 * (i / 8) + i % 8 = i := by omega
  have hk := byte_or q (i / 8) (i % 8) h8
  rw [hi] at hk
  have hp : 2 ^ (i % 8) < 256 := by omega
  have e2 : (2 : Int) ^ (i % 8) = ((2 ^ (i % 8) : Nat) : Int) := by rw [Int.natCast_pow]; rfl
  have e3 : qhi q i = qhi q (i + 1) + 2 ^ i := by rw [qhi_step, hb, Nat.one_mul]
  have hor : bits .or .u8 (byt (qhi q (i + 1)) (i / 8)) (2 ^ (i % 8)) = byt (qhi q i) (i / 8) := by
    have hx : qhi q (i + 1) / 256 ^ (i / 8) % 256 ||| 2 ^ (i % 8) < 256 := by rw [hk.1]; exact Nat.mod_lt _ (by omega)
    unfold byt
    rw [e2, u8_or _ _ (Nat.mod_lt _ (by omega)) hp hx, hk.1, e3]
  rw [hor]
  apply List.ext_getElem
  · simp
  · intro j h1 h2
    rw [List.getElem_set]
    simp only [List.length_set, le_len] at h1
    by_cases e : i / 8 = j
    · subst e; simp [le]
    · rw [if_neg e]
      simp only [le, List.getElem_map, List.getElem_range]
      have key : qhi q i / 256 ^ j % 256 = qhi q (i + 1) / 256 ^ j % 256 := by
        rw [e3, show 2 ^ i = 256 ^ (i / 8) * 2 ^ (i % 8) by rw [← pow8, hi]]
        rcases Nat.lt_or_ge j (i / 8) with hj | hj
        · obtain ⟨d, hd⟩ : ∃ d, i / 8 = j + 1 + d := ⟨i / 8 - j - 1, by omega⟩
          rw [hd, show 256 ^ (j + 1 + d) = 256 ^ j * (256 * 256 ^ d) by rw [Nat.pow_add, Nat.pow_succ, Nat.mul_assoc], Nat.mul_assoc, Nat.add_mul_div_left _ _ (Nat.pow_pos (by omega)), Nat.mul_assoc, Nat.add_mul_mod_self_left]
        · obtain ⟨d, rfl⟩ : ∃ d, j = i / 8 + 1 + d := ⟨j - i / 8 - 1, by omega⟩
          have hP : 0 < 256 ^ (i / 8) := Nat.pow_pos (by omega)
          have e4 : qhi q (i + 1) = 256 ^ (i / 8) * (q / 2 ^ (i + 1) * 2 ^ (i % 8 + 1)) := by
            unfold qhi; rw [← Nat.mul_left_comm, ← pow8]; congr 2; omega
          rw [e4, ← Nat.mul_add, show 256 ^ (i / 8 + 1 + d) = 256 ^ (i / 8) * (256 * 256 ^ d) by rw [Nat.pow_add, Nat.pow_succ, Nat.mul_assoc], ← Nat.div_div_eq_div_mul, ← Nat.div_div_eq_div_mul, ← Nat.div_div_eq_div_mul, ← Nat.div_div_eq_div_mul, Nat.mul_div_cancel_left _ hP, Nat.mul_div_cancel_left _ hP]
          congr 2
          generalize q / 2 ^ (i + 1) = x
          have : i % 8 = 0 ∨ i % 8 = 1 ∨ i % 8 = 2 ∨ i % 8 = 3 ∨ i % 8 = 4 ∨ i % 8 = 5 ∨ i % 8 = 6 ∨ i % 8 = 7 := by omega
          rcases this with e | e | e | e | e | e | e | e <;> rw [e] <;> omega
      unfold byt
      rw [key]
end Go.Proofs.YtnkklmbmodkogaaDoor

/-! Sp2 -/
namespace Go.Proofs.YtnkklmbmodkogaaDoor
open Go.RowKit

set_option maxRecDepth 100000 in
set_option maxHeartbeats 2000000 in
theorem split_any (A A' : Option Addr) (n c m c' u v B : Nat) (w : World) (hr : Bys w B A (le u n)) (hr' : Bys w B A' (le v m)) (hB : B ≤ w.heap.size) (hu : u < 256 ^ n) (hm : m = blen v) (hv : 0 < v) (hn1 : n < 100000) (hm1 : m < 100000) :
    Calls Tryd.prog 61 #[.slice A n c, .slice A' m c'] w fun e w' => (∃ x y, e = .returned (.tuple #[x, y]) ∧ NatIs w' w'.heap.size x (u / v) ∧ NatIs w' w'.heap.size y (u % v)) ∧ Below w.heap.size w w' := by
  subst hm
  go_enter Tryd.func61, Tryd.ntmps61
  go_wp2_with (refine make1 rfl _ _ _ rfl Tryd.underlying62 n _ _ rfl rfl ?c1 ?c2 ?c3 (Below.refl _ _) (Nat.le_refl _) ?_)
  case c1 => simp
  case c2 => simp
  case c3 => omega
  intro w1 hown0 hbl0 hsz0
  rw [← le_zero] at hown0
  have HR := hr.below' hbl0 hB
  have HR' := hr'.below' hbl0 hB
  clear hr hr'
  have HB0 := Lib.hid hbl0
  clear hbl0
  have hk0 : IntKind.i64.wrap ((n : Int) * 8 - 1) = (n : Int) * 8 - 1 := by rw [IntKind.wrap_i64]; omega
  go_wp2
  generalize hg : w.heap.size = g at *
  have Hg := Lib.hid hg
  clear hg
  have hq256 : u / v < 256 ^ n := Nat.lt_of_le_of_lt (Nat.div_le_self _ _) hu
  have hq0 : qhi (u / v) (8 * n) = 0 := qhi_big (by rw [show (2 : Nat) ^ (8 * n) = 256 ^ n by rw [Nat.pow_mul]]; exact hq256)
  have hu0 : u / 2 ^ (8 * n) % v = 0 := by rw [show (2 : Nat) ^ (8 * n) = 256 ^ n by rw [Nat.pow_mul], Nat.div_eq_of_lt hu, Nat.zero_mod]
  have HQ := Lib.hid hq256
  have HV := Lib.hid hv
  have HU := Lib.hid hu
  clear hq256 hu
  go_loopw [7, 8] (fun r i wr => ∃ k : Nat, k ≤ 8 * n ∧ i = .int .i64 ((k : Int) - 1) ∧ Own wr (g + 1) r (le (u / 2 ^ k % v) (blen (u / 2 ^ k % v))) ∧ Own wr g (.slice (some ⟨g, 0, none⟩) n n) (le (qhi (u / v) k) n) ∧ Below g w1 wr ∧ g < wr.heap.size) (fun _ i _ => (intOf i + 1).toNat)
  case atStart => exact ⟨8 * n, Nat.le_refl _, by simp; omega, by rw [hu0, blen_zero]; exact Own.nil_, by rw [hq0]; exact hown0, Below.refl _ _, hsz0⟩
  case round =>
    obtain ⟨k, hk, rfl, hro, hown, hbl, hgs⟩ := hrel
    rcases Nat.eq_zero_or_pos k with rfl | hk1
    · rw [qhi_zero] at hown
      rw [show u / 2 ^ 0 = u by rw [Nat.pow_zero, Nat.div_one]] at hro
      have hwg : g ≤ wr.heap.size := Nat.le_of_lt hgs
      obtain ⟨A2, c2, rfl, p1, p2, p3⟩ := hro.form
      simp only [le_len] at p1
      rw [le_len]
      have HY := Lib.hid (show NatIs wr wr.heap.size (.slice A2 (blen (u % v)) c2) (u % v) from ⟨_, _, rfl, p1, p2, p3⟩)
      obtain ⟨A1, c1, hx, q1, q2, q3⟩ := hown.form
      simp only [le_len, Value.slice.injEq, true_and] at hx q1
      obtain ⟨rfl, rfl⟩ := hx
      have HX := Lib.hid (show NatIs wr wr.heap.size (.slice (some ⟨g, 0, none⟩) (blen (u / v)) n) (u / v) from ⟨_, _, rfl, blen_le HQ.out, q2, (by
        have := hown.take (m := blen (u / v)) (by simp) (by simpa using blen_le HQ.out)
        rw [le_take _ _ _ (blen_le HQ.out)] at this
        obtain ⟨A3, c3, hx3, r1, r2, r3⟩ := this.form
        simp only [le_len, Value.slice.injEq, true_and] at hx3
        obtain ⟨rfl, rfl⟩ := hx3
        exact r3)⟩)
      have HBB := Lib.hid (HB0.out.trans hbl)
      clear HR HR' hown hbl hro p3
      go_wp2_with fail
      refine (trim_any (some ⟨g, 0, none⟩) n n (u / v) wr.heap.size wr q3 HQ.out (Nat.le_refl _) q2).mono ?_
      rintro e w' ⟨rfl, rfl⟩
      go_wp2
      refine bodyPost_ret (v := .tuple #[.slice (some ⟨g, 0, none⟩) (blen (u / v)) n, .slice A2 (blen (u % v)) c2]) ?_ rfl ⟨⟨_, _, rfl, HX.out, HY.out⟩, by rw [Hg.out]; exact HBB.out⟩
      simp [results, Tryd.results61, go_sem]
    · obtain ⟨i, rfl⟩ : ∃ i, k = i + 1 := ⟨k - 1, by omega⟩
      have hkk : (((i + 1 : Nat) : Int) - 1) = (i : Int) := by omega
      rw [hkk]
      have hqs := qhi_step (u / v) i
      have hRv := Nat.mod_lt (u / 2 ^ (i + 1)) HV.out
      generalize hR : u / 2 ^ (i + 1) % v = R at *
      have HRE := Lib.hid hR
      have hRm : blen R ≤ blen v := blen_le (Nat.lt_trans hRv (blen_hi v))
      obtain ⟨A1, c1, rfl, p1, p2, p3⟩ := hro.form
      simp only [le_len] at p1
      have hj : i / 8 < n := by omega
      have hrr := HR.below' hbl (by omega)
      obtain ⟨b, o, rfl, hbB, hcell⟩ := hrr (by simpa using (by omega))
      have hc1 : wr.cell? ⟨b, o + i / 8, none⟩ = some (.int .u8 (byt u (i / 8))) := by
        rw [hcell (i / 8) (by simpa using hj), le_get u n _ hj]
      have HQS := Lib.hid hqs
      have HRV := Lib.hid hRv
      have HGS := Lib.hid hgs
      have HP3 := Lib.hid p3
      have HOWN := Lib.hid hown
      have HBL := Lib.hid hbl
      have HC1 := Lib.hid hc1
      clear hqs hR hRv p3 hrr hcell hown hbl hro hc1
      rw [le_len]
      go_wp2_with (fail)
      refine (plus_any A1 A1 _ _ c1 c1 R R wr.heap.size wr HP3.out HP3.out (Nat.le_refl _) (blen_hi R) (blen_hi R) (by omega) (by omega)).mono ?_
      rintro e w2 ⟨⟨y1, rfl, ho1⟩, q2⟩
      have hc2 := kept_cell q2 HC1.out (by omega)
      have hbt := bit_test u i
      have hbl1 := bitN_le u i
      rcases Nat.eq_zero_or_pos (bitN u i) with hb | hb
      · have HST := Lib.hid (split_next (X := R + R) HV.out HRE.out hb (by omega))
        rw [hb] at hbt
        go_wp2_with (fail)
        obtain ⟨A2, c2, rfl, s1, s2, s3⟩ := ho1.form
        simp only [le_len] at s1
        have HO2 := Lib.hid ho1
        have HS3 := Lib.hid s3
        have HY := Lib.hid (((HR'.below' HBL.out (by omega)).below' q2 (by omega)).more (B' := w2.heap.size) (by have := q2.size; omega))
        have HQ2 := Lib.hid q2
        have hRl : blen (R + R) < 1000000 := by
          refine Nat.lt_of_le_of_lt (blen_le (n := blen v + 1) ?_) (by omega)
          have := blen_hi v
          have h1 := HRV.out
          have h2 := Nat.pow_succ 256 (blen v)
          omega
        clear s3 ho1 q2
        rw [le_len]
        go_wp2_with (fail)
        refine (order_any A2 A' _ _ c2 c' (R + R) v w2.heap.size w2 HS3.out HY.out (Nat.le_refl _) rfl rfl hRl (by omega)).mono ?_
        rintro e w5 ⟨rfl, q5⟩
        have Q5 := Lib.hid q5
        clear q5
        by_cases hge : v ≤ R + R
        · have hcm : decide (0 ≤ cmpN (R + R) v) = true := cmpN_ge0 hge
          have hnew := HST.out.1 hge
          have hnew := Lib.hid hnew
          go_wp2_with (fail)
          refine (minus_any A2 A' _ _ c2 c' (R + R) v w2.heap.size w5 (HS3.out.below Q5.out) (HY.out.below Q5.out) Q5.out.size (blen_hi _) (blen_hi v) hge hRl (by omega)).mono ?_
          rintro e w6 ⟨⟨y6, rfl, ho6⟩, q6⟩
          have hsz5 := Q5.out.size
          have hsz2 := HQ2.out.size
          have hsz6 := q6.size
          have qa := HQ2.out.trans ((Q5.out.trans (q6.mono Q5.out.size)).mono HQ2.out.size)
          have hown6 := HOWN.out.below' qa
          have hc6 := hown6.cellAt (j := i / 8) (by simp; omega)
          have hf6 := hown6.freeAt (i / 8)
          rw [le_get _ _ _ hj] at hc6
          have hO := Lib.hid hown6
          have hO6 := Lib.hid ho6
          have QA := Lib.hid qa
          clear ho6 q6 qa hown6
          have hpw : IntKind.u8.wrap (2 ^ (i % 8)) = 2 ^ (i % 8) := pow_wrap i
          have hO1 := hO.out.set_ (j := i / 8) (bits .or .u8 (byt (qhi (u / v) (i + 1)) (i / 8)) (2 ^ (i % 8)))
          rw [bit_set _ _ _ hj hnew.out.2] at hO1
          have HOq := Lib.hid hO1
          have HOr := Lib.hid ((hO6.out.less (B' := g + 1) (by have := HGS.out; omega)).low (p := ⟨g, i / 8, none⟩) (by simp) (.int .u8 (bits .or .u8 (byt (qhi (u / v) (i + 1)) (i / 8)) (2 ^ (i % 8)))))
          have HBq := Lib.hid ((HBL.out.trans (QA.out.mono (Nat.le_of_lt HGS.out))).setCell (p := ⟨g, i / 8, none⟩) (Nat.le_refl _) (.int .u8 (bits .or .u8 (byt (qhi (u / v) (i + 1)) (i / 8)) (2 ^ (i % 8)))))
          have HSZ := Lib.hid (show g < w6.heap.size by have := HGS.out; omega)
          have j1 : (i : Int) / 8 < (n : Int) := by omega
          have j0 : (0 : Int) ≤ (i : Int) / 8 := by omega
          have hown6 := hO.out
          clear hO1 hO hO6 HOWN HO2 hsz5 hsz2 hsz6
          go_wp2_with (fail)
          go_region
          all_goals
            go_wp2
            rw [pow_256]
            refine ⟨⟨i, Nat.le_of_lt (by omega), rfl, ?_, HOq.out.drew, HBq.out.drew, by simpa using HSZ.out⟩, ?_⟩
            · rw [hnew.out.1]; exact HOr.out.drew
            · show (((i : Int) - 1) + 1).toNat < ((i : Int) + 1).toNat
              omega
        · have hlt : R + R < v := by omega
          have hcm : decide (0 ≤ cmpN (R + R) v) = false := cmpN_lt0 hlt
          have hnew := Lib.hid (HST.out.2 hlt)
          go_wp2_with (fail)
          have qb := HQ2.out.trans (Q5.out.mono HQ2.out.size)
          refine ⟨⟨i, Nat.le_of_lt (by omega), rfl, ?_, ?_, HBL.out.trans (qb.mono (Nat.le_of_lt HGS.out)), by have := HGS.out; have := HQ2.out.size; have := Q5.out.size; omega⟩, ?_⟩
          · rw [hnew.out.1]; have ho2 := HO2.out; rw [le_len] at ho2; exact (ho2.below' Q5.out).less HGS.out
          · rw [qhi_step, hnew.out.2, Nat.zero_mul, Nat.add_zero]; exact HOWN.out.below' qb
          · show (((i : Int) - 1) + 1).toNat < ((i : Int) + 1).toNat
            omega

      · have hb1 : bitN u i = 1 := by omega
        have HST := Lib.hid (split_next (X := R + R + 1) HV.out HRE.out hb1 (by omega))
        rw [hb1] at hbt
        have hva := Var.new w2 5 #[.int .u8 1]
        have hba := below_alloc w2 (.cells #[.int .u8 1] 5)
        have hby := Lib.hid (bys_cell (v := 1) hva rfl (by omega))
        obtain ⟨A3, c3, rfl, t1, t2, t3⟩ := ho1.form
        simp only [le_len] at t1
        have HT3 := Lib.hid (t3.below hba)
        have HQ0 := Lib.hid (q2.trans (hba.mono q2.size))
        have hsa := hba.size
        have hRl0 : blen (R + R) < 1000000 := by
          refine Nat.lt_of_le_of_lt (blen_le (n := blen v + 1) ?_) (by omega)
          have := blen_hi v
          have h1 := HRV.out
          have h2 := Nat.pow_succ 256 (blen v)
          omega
        clear t3 hva hba q2 ho1
        rw [le_len]
        go_wp2_with (fail)
        generalize hW3 : w2.alloc (.cells #[.int .u8 1] 5) = W3 at *
        refine (plus_any A3 _ _ _ c3 1 (R + R) 1 W3.heap.size W3 (HT3.out.more hsa) hby.out (Nat.le_refl _) (blen_hi _) (by omega) (by omega) (by omega)).mono ?_
        rintro e w4 ⟨⟨y4, rfl, ho4⟩, q4⟩
        have q40 := HQ0.out.trans (q4.mono HQ0.out.size)
        have ho40 := ho4.less (B' := wr.heap.size) HQ0.out.size
        clear ho4 q4
        obtain ⟨A2, c2, rfl, s1, s2, s3⟩ := ho40.form
        simp only [le_len] at s1
        have HO2 := Lib.hid ho40
        have HS3 := Lib.hid s3
        have HY := Lib.hid (((HR'.below' HBL.out (by omega)).below' q40 (by omega)).more (B' := w4.heap.size) (by have := q40.size; omega))
        have HQ2 := Lib.hid q40
        have hRl : blen (R + R + 1) < 1000000 := by
          refine Nat.lt_of_le_of_lt (blen_le (n := blen v + 1) ?_) (by omega)
          have := blen_hi v
          have h1 := HRV.out
          have h2 := Nat.pow_succ 256 (blen v)
          omega
        clear s3 ho40 q40
        rw [le_len]
        go_wp2_with (fail)
        refine (order_any A2 A' _ _ c2 c' (R + R + 1) v w4.heap.size w4 HS3.out HY.out (Nat.le_refl _) rfl rfl hRl (by omega)).mono ?_
        rintro e w5 ⟨rfl, q5⟩
        have Q5 := Lib.hid q5
        clear q5
        by_cases hge : v ≤ R + R + 1
        · have hcm : decide (0 ≤ cmpN (R + R + 1) v) = true := cmpN_ge0 hge
          have hnew := HST.out.1 hge
          have hnew := Lib.hid hnew
          go_wp2_with (fail)
          refine (minus_any A2 A' _ _ c2 c' (R + R + 1) v w4.heap.size w5 (HS3.out.below Q5.out) (HY.out.below Q5.out) Q5.out.size (blen_hi _) (blen_hi v) hge hRl (by omega)).mono ?_
          rintro e w6 ⟨⟨y6, rfl, ho6⟩, q6⟩
          have hsz5 := Q5.out.size
          have hsz2 := HQ2.out.size
          have hsz6 := q6.size
          have qa := HQ2.out.trans ((Q5.out.trans (q6.mono Q5.out.size)).mono HQ2.out.size)
          have hown6 := HOWN.out.below' qa
          have hc6 := hown6.cellAt (j := i / 8) (by simp; omega)
          have hf6 := hown6.freeAt (i / 8)
          rw [le_get _ _ _ hj] at hc6
          have hO := Lib.hid hown6
          have hO6 := Lib.hid ho6
          have QA := Lib.hid qa
          clear ho6 q6 qa hown6
          have hpw : IntKind.u8.wrap (2 ^ (i % 8)) = 2 ^ (i % 8) := pow_wrap i
          have hO1 := hO.out.set_ (j := i / 8) (bits .or .u8 (byt (qhi (u / v) (i + 1)) (i / 8)) (2 ^ (i % 8)))
          rw [bit_set _ _ _ hj hnew.out.2] at hO1
          have HOq := Lib.hid hO1
          have HOr := Lib.hid ((hO6.out.less (B' := g + 1) (by have := HGS.out; omega)).low (p := ⟨g, i / 8, none⟩) (by simp) (.int .u8 (bits .or .u8 (byt (qhi (u / v) (i + 1)) (i / 8)) (2 ^ (i % 8)))))
          have HBq := Lib.hid ((HBL.out.trans (QA.out.mono (Nat.le_of_lt HGS.out))).setCell (p := ⟨g, i / 8, none⟩) (Nat.le_refl _) (.int .u8 (bits .or .u8 (byt (qhi (u / v) (i + 1)) (i / 8)) (2 ^ (i % 8)))))
          have HSZ := Lib.hid (show g < w6.heap.size by have := HGS.out; omega)
          have j1 : (i : Int) / 8 < (n : Int) := by omega
          have j0 : (0 : Int) ≤ (i : Int) / 8 := by omega
          have hown6 := hO.out
          clear hO1 hO hO6 HOWN HO2 hsz5 hsz2 hsz6
          go_wp2_with (fail)
          go_region
          all_goals
            go_wp2
            rw [pow_256]
            refine ⟨⟨i, Nat.le_of_lt (by omega), rfl, ?_, HOq.out.drew, HBq.out.drew, by simpa using HSZ.out⟩, ?_⟩
            · rw [hnew.out.1]; exact HOr.out.drew
            · show (((i : Int) - 1) + 1).toNat < ((i : Int) + 1).toNat
              omega
        · have hlt : R + R + 1 < v := by omega
          have hcm : decide (0 ≤ cmpN (R + R + 1) v) = false := cmpN_lt0 hlt
          have hnew := Lib.hid (HST.out.2 hlt)
          go_wp2_with (fail)
          have qb := HQ2.out.trans (Q5.out.mono HQ2.out.size)
          refine ⟨⟨i, Nat.le_of_lt (by omega), rfl, ?_, ?_, HBL.out.trans (qb.mono (Nat.le_of_lt HGS.out)), by have := HGS.out; have := HQ2.out.size; have := Q5.out.size; omega⟩, ?_⟩
          · rw [hnew.out.1]; have ho2 := HO2.out; rw [le_len] at ho2; exact (ho2.below' Q5.out).less HGS.out
          · rw [qhi_step, hnew.out.2, Nat.zero_mul, Nat.add_zero]; exact HOWN.out.below' qb
          · show (((i : Int) - 1) + 1).toNat < ((i : Int) + 1).toNat
            omega
end Go.Proofs.YtnkklmbmodkogaaDoor

/-! Di1 -/
namespace Go.Proofs.YtnkklmbmodkogaaDoor
open Go.RowKit

theorem split_nat (x y : Value) (u v : Nat) (w : World) (hx : NatIs w w.heap.size x u) (hy : NatIs w w.heap.size y v) (hu : blen u < 100000) (hv : blen v < 100000) (h0 : 0 < v) :
    Calls Tryd.prog 61 #[x, y] w fun e w' => (∃ a b, e = .returned (.tuple #[a, b]) ∧ NatIs w' w'.heap.size a (u / v) ∧ NatIs w' w'.heap.size b (u % v)) ∧ Below w.heap.size w w' := by
  obtain ⟨A, c, rfl, h1, h2, h3⟩ := hx
  obtain ⟨A', c', rfl, h1', h2', h3'⟩ := hy
  exact split_any A A' (blen u) c (blen v) c' u v w.heap.size w h3 h3' (Nat.le_refl _) (blen_hi u) rfl h0 hu hv
end Go.Proofs.YtnkklmbmodkogaaDoor

/-! Di2 -/
namespace Go.Proofs.YtnkklmbmodkogaaDoor
open Go.RowKit

theorem le_inj {n : Nat} : ∀ {u v : Nat}, u < 256 ^ n → v < 256 ^ n → le u n = le v n → u = v := by
  induction n with
  | zero => intro u v hu hv _; simp at hu hv; omega
  | succ n ih =>
    intro u v hu hv h
    have h0 : byt u 0 = byt v 0 := by
      have := congrArg (fun l => l[0]?.getD 0) h
      simp only [le_get _ _ _ (Nat.zero_lt_succ n)] at this
      exact this
    have h1 : le (u / 256) n = le (v / 256) n := by
      apply List.ext_getElem
      · simp
      · intro k k1 k2
        simp only [le_len] at k1
        have := congrArg (fun l => l[k + 1]?.getD 0) h
        simp only [le_get _ _ _ (show k + 1 < n + 1 by omega)] at this
        have e : ∀ x : Nat, byt (x / 256) k = byt x (k + 1) := fun x => by
          unfold byt; rw [Nat.div_div_eq_div_mul, Nat.pow_succ, Nat.mul_comm 256]
        simp only [le, List.getElem_map, List.getElem_range]
        rw [e, e]; exact this
    have h2 := ih (u := u / 256) (v := v / 256) (by rw [Nat.pow_succ] at hu; omega) (by rw [Nat.pow_succ] at hv; omega) h1
    unfold byt at h0
    simp only [Nat.pow_zero, Nat.div_one] at h0
    omega
theorem NatIs.only {w : World} {B B' : Nat} {x : Value} {u v : Nat} (h : NatIs w B x u) (h' : NatIs w B' x v) : u = v := by
  obtain ⟨A, c, e, -, -, h1⟩ := h
  obtain ⟨A', c', e', -, -, h2⟩ := h'
  rw [e] at e'
  simp only [Value.slice.injEq] at e'
  obtain ⟨rfl, hl, -⟩ := e'
  have hl : blen u = blen v := by omega
  refine le_inj (n := blen u) (blen_hi u) (by rw [hl]; exact blen_hi v) ?_
  apply List.ext_getElem
  · simp
  · intro k k1 k2
    simp only [le_len] at k1
    obtain ⟨b, o, rfl, -, c1⟩ := h1 (by simp; omega)
    obtain ⟨b', o', e2, -, c2⟩ := h2 (by simp; omega)
    simp only [Option.some.injEq, Addr.mk.injEq, and_true] at e2
    obtain ⟨rfl, rfl⟩ := e2
    have a1 := c1 k (by simpa using k1)
    have a2 := c2 k (by simp; omega)
    rw [a1, le_get _ _ _ k1, le_get _ _ _ (by omega)] at a2
    simp only [le, List.getElem_map, List.getElem_range]
    simpa using a2
/-- The number that a value holds. -/
noncomputable def valN (w : World) (x : Value) : Nat := by
  classical
  exact if h : ∃ v, NatIs w w.heap.size x v then h.choose else 0
theorem valN_eq {w : World} {x : Value} {v : Nat} (h : NatIs w w.heap.size x v) : valN w x = v := by
  unfold valN
  have h' : ∃ v, NatIs w w.heap.size x v := ⟨v, h⟩
  rw [dif_pos h']
  exact NatIs.only h'.choose_spec h
set_option maxRecDepth 100000 in
set_option maxHeartbeats 2000000 in
theorem common_int (x x' : Value) (z z' : Int) (w : World) (hx : IntIs w w.heap.size x z) (hx' : IntIs w w.heap.size x' z') (hz : blen z.natAbs < 1000) (hz' : blen z'.natAbs < 1000) :
    Calls Tryd.prog 35 #[x, x'] w (RetInt w ((Nat.gcd z.natAbs z'.natAbs : Nat) : Int)) := by
  have HS := Lib.hid hz
  have HS' := Lib.hid hz'
  have hz : blen z.natAbs < 1000000 := by omega
  have hz' : blen z'.natAbs < 1000000 := by omega
  obtain ⟨f, A, n, c, rfl, hx, hf, hn⟩ := hx.look
  obtain ⟨f', A', n', c', rfl, hx', hf', hn'⟩ := hx'.look
  have HZ := Lib.hid hz
  have HZ' := Lib.hid hz'
  obtain ⟨hv0, hv1, hv2, hbW, hsz⟩ := boxes3 w 24 24 24 #[.bool f, .slice A n c] #[.bool f', .slice A' n' c'] #[.bool false, .slice none 0 0]
  have hX := Lib.hid (hx.step hbW)
  have hX' := Lib.hid (hx'.step hbW)
  clear hx hx' hf hf' hn hn' hz hz'
  go_enter Tryd.func35, Tryd.ntmps35
  go_wp2_with fail
  generalize ((w.alloc (.cells #[.bool f, .slice A n c] 24)).alloc (.cells #[.bool f', .slice A' n' c'] 24)).alloc (.cells #[.bool false, .slice none 0 0] 24) = W at *
  have k0 := hv0.cell 0
  have k1 := hv0.cell 1
  have k2 := hv1.cell 0
  have k3 := hv1.cell 1
  simp only [List.getElem?_toArray, List.getElem?_cons_succ, List.getElem?_cons_zero] at k0 k1 k2 k3
  have HW := Lib.hid hbW
  have HV := Lib.hid hv2
  have hlt : w.heap.size < W.heap.size := by omega
  have hlt1 : w.heap.size + 1 < W.heap.size := by omega
  have hlt2 : w.heap.size + 2 < W.heap.size := by omega
  clear hv0 hv1 hv2 hbW
  go_cut [5, 6] (fun p q wx => Hid (NatIs wx wx.heap.size p z.natAbs) ∧ Hid (NatIs wx wx.heap.size q z'.natAbs) ∧ Hid (Below W.heap.size W wx))
  case first =>
    go_region_held3 (fun w' => w'.cell? ⟨w.heap.size, 0, none⟩ = some (.bool f) ∧ w'.cell? ⟨w.heap.size, 1, none⟩ = some (.slice A n c) ∧ w'.cell? ⟨w.heap.size + 1, 0, none⟩ = some (.bool f') ∧ w'.cell? ⟨w.heap.size + 1, 1, none⟩ = some (.slice A' n' c')) (first | exact ⟨by assumption, by assumption, by assumption, by assumption⟩ | go_keep)
      (first
        | (go_at_call_of 47 (Value.agg #[Value.bool f, Value.slice A n c]); refine (abs_int _ z _ (by exact hX.out) HZ.out).mono ?_; rintro e w1 ⟨⟨x1, rfl, hn1⟩, hq1⟩; have hc1 := undrew hq1; have k01 := kept_cell hc1 k0 hlt; have k11 := kept_cell hc1 k1 hlt; have k21 := kept_cell hc1 k2 hlt1; have k31 := kept_cell hc1 k3 hlt1)
        | (go_at_call_of 47 (Value.agg #[Value.bool f', Value.slice A' n' c']); refine (abs_int _ z' _ (by exact hX'.out.step hc1) HZ'.out).mono ?_; rintro e w2 ⟨⟨x2, rfl, hn2⟩, hq2⟩; have hc2 := hc1.trans (hq2.mono hc1.size); have k02 := kept_cell hc2 k0 hlt; have k12 := kept_cell hc2 k1 hlt; have k22 := kept_cell hc2 k2 hlt1; have k32 := kept_cell hc2 k3 hlt1; have hn1b := hn1.next hq2))
    all_goals
      go_wp2_with (fail)
      go_meet
      exact ⟨Lib.hid hn1b, Lib.hid hn2, Lib.hid hc2⟩
  case rest =>
  obtain ⟨N1, N2, HC⟩ := hcut
  clear k0 k1 k2 k3
  go_wp2_with (fail)
  go_loopw [5, 6] (fun p q wr => ∃ m r : Nat, Hid (NatIs wr wr.heap.size p m) ∧ Hid (NatIs wr wr.heap.size q r) ∧ blen m < 1000 ∧ blen r < 1000 ∧ Hid (Nat.gcd m r = Nat.gcd z.natAbs z'.natAbs) ∧ Hid (Below W.heap.size W wr)) (fun _ q wr => valN wr q)
  case atStart => exact ⟨_, _, N1, N2, HS.out, HS'.out, Lib.hid rfl, HC⟩
  case round =>
    obtain ⟨m, r, j1, j2, b1, b2, hg, hc⟩ := hrel
    rcases Nat.eq_zero_or_pos r with rfl | h0
    · have hgm : m = Nat.gcd z.natAbs z'.natAbs := by rw [← hg.out, Nat.gcd_zero_right]
      obtain ⟨A2, c2, rfl, -, -, -⟩ := j2.out
      rw [blen_zero]
      have HG := Lib.hid hgm
      have HM := Lib.hid b1
      clear j2 hg b1 b2 hgm
      go_wp2_with (fail)
      refine (make_nat false _ m _ j1.out (Nat.lt_trans HM.out (by omega))).mono ?_
      rintro e w4 ⟨⟨x4, rfl, hn4⟩, hq4⟩
      have hc4 := hc.out.trans (hq4.mono hc.out.size)
      rw [show sgn false m = ((Nat.gcd z.natAbs z'.natAbs : Nat) : Int) by rw [← HG.out]; rfl] at hn4
      have hvr := HV.out.below hc4 hlt2
      have s0 := hvr.cell 0
      have s1 := hvr.cell 1
      have t0 := hvr.free 0
      have t1 := hvr.free 1
      simp only [List.getElem?_toArray, List.getElem?_cons_succ, List.getElem?_cons_zero] at s0 s1
      obtain ⟨f2, A3, n2, c3, rfl, hi3, hf2, hn2⟩ := hn4.look
      clear hf2 hn2
      have HX := Lib.hid (retInt_store hi3 hvr (HW.out.trans (hc4.mono (Nat.le_of_lt hlt))) (Nat.le_add_right _ _))
      clear hi3 hvr
      go_wp2
      exact bodyPost_ret (by simp [results, Tryd.results35, go_sem, s0, s1]) rfl HX.out
    · have hml := Nat.mod_lt m h0
      have HML := Lib.hid hml
      have hbm : blen (m % r) < 1000 := Nat.lt_of_le_of_lt (blen_le (Nat.lt_trans hml (blen_hi r))) b2
      have HBM := Lib.hid hbm
      have HG := Lib.hid (show Nat.gcd r (m % r) = Nat.gcd z.natAbs z'.natAbs by rw [← hg.out, Nat.gcd_comm m r, Nat.gcd_rec r m, Nat.gcd_comm])
      have hv := valN_eq j2.out
      have HVN := Lib.hid hv
      have hb0 : blen r ≠ 0 := fun h => by
        have := blen_hi r; rw [h] at this; simp at this; omega
      have j2' := j2
      obtain ⟨A2, c2, rfl, -, -, -⟩ := j2'.out
      have hp : (0 : Int) < (blen r : Int) := by omega
      clear hml hbm hv
      go_wp2_with (fail)
      refine (split_nat _ _ m r wr j1.out j2.out (by omega) (by omega) h0).mono ?_
      rintro e w4 ⟨⟨qa, qb, rfl, ja, jb⟩, hq4⟩
      have HJ := Lib.hid (j2.out.next hq4)
      have HJB := Lib.hid jb
      have HC4 := Lib.hid (hc.out.trans (hq4.mono hc.out.size))
      clear ja jb hq4 j1
      go_wp2
      refine ⟨⟨r, m % r, HJ, HJB, b2, HBM.out, HG, HC4⟩, ?_⟩
      rw [valN_eq HJB.out]
      have h1 := HVN.out
      have h2 := HML.out
      omega
end Go.Proofs.YtnkklmbmodkogaaDoor
