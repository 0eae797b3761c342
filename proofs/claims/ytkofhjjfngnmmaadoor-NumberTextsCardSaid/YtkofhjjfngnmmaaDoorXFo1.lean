/- The reference's Form. -/
import Derived.Test.YtkofhjjfngnmmaaDoorG7
namespace Go.Proofs.YtkofhjjfngnmmaaDoor
open Go.RowKit

set_option maxRecDepth 100000 in
set_option maxHeartbeats 1000000 in
theorem form_zero (w : World) :
    Calls Tryd.prog 40 #[.string ⟨([48]).toArray⟩] w fun e w' => e = .returned (.bool true) ∧ w = w' := by
  go_enter Tryd.func40, Tryd.ntmps40
  go_wp2_with (fail)
  go_ret
  exact ⟨rfl, rfl⟩
set_option maxRecDepth 100000 in
set_option maxHeartbeats 1000000 in
theorem form_nil (w : World) :
    Calls Tryd.prog 40 #[.string ⟨([]).toArray⟩] w fun e w' => e = .returned (.bool false) ∧ w = w' := by
  go_enter Tryd.func40, Tryd.ntmps40
  go_wp2_with (fail)
  go_ret
  exact ⟨rfl, rfl⟩
theorem drop_one (a : UInt8) (t : List UInt8) : (⟨(a :: t).toArray⟩ : ByteArray).extract 1 (t.length + 1) = ⟨t.toArray⟩ := by
  apply ByteArray.ext
  rw [ByteArray.data_extract]
  simp
set_option maxRecDepth 100000 in
set_option maxHeartbeats 1000000 in
theorem form_m (w : World) :
    Calls Tryd.prog 40 #[.string ⟨([45]).toArray⟩] w fun e w' => e = .returned (.bool false) ∧ w = w' := by
  have hx : (⟨(45 :: ([] : List UInt8)).toArray⟩ : ByteArray).extract 1 (([] : List UInt8).length + 1) = ⟨(([] : List UInt8)).toArray⟩ := drop_one 45 _
  simp only [List.length_cons, List.length_nil] at hx
  go_enter Tryd.func40, Tryd.ntmps40
  go_wp2_with (fail)
  go_ret
  exact ⟨rfl, rfl⟩
set_option maxRecDepth 100000 in
set_option maxHeartbeats 1000000 in
theorem form_mz (c : UInt8) (t : List UInt8) (w : World) (h : c.toNat = 48) (hl : t.length ≤ 1000000) :
    Calls Tryd.prog 40 #[.string ⟨(45 :: c :: t).toArray⟩] w fun e w' => e = .returned (.bool false) ∧ w = w' := by
  have hx : (⟨(45 :: c :: t).toArray⟩ : ByteArray).extract 1 ((c :: t).length + 1) = ⟨(c :: t).toArray⟩ := drop_one 45 _
  simp only [List.length_cons, List.length_nil] at hx
  have h1 : ((((⟨(c :: t).toArray⟩ : ByteArray)[0]'(Nat.zero_lt_succ _)).toNat : Int) == 48) = true := by show ((c.toNat : Int) == 48) = true; simp; omega
  clear h
  go_enter Tryd.func40, Tryd.ntmps40
  go_wp2_with (fail)
  go_ret
  exact ⟨rfl, rfl⟩
set_option maxRecDepth 100000 in
set_option maxHeartbeats 1000000 in
theorem form_md (c : UInt8) (t : List UInt8) (r : Bool) (hr : (c :: t).all digB = r) (w : World) (h : c.toNat ≠ 48) (hl : t.length ≤ 1000000) :
    Calls Tryd.prog 40 #[.string ⟨(45 :: c :: t).toArray⟩] w fun e w' => e = .returned (.bool r) ∧ w = w' := by
  have HRR := Lib.hid hr
  clear hr
  have hx : (⟨(45 :: c :: t).toArray⟩ : ByteArray).extract 1 ((c :: t).length + 1) = ⟨(c :: t).toArray⟩ := drop_one 45 _
  simp only [List.length_cons, List.length_nil] at hx
  have h1 : ((((⟨(c :: t).toArray⟩ : ByteArray)[0]'(Nat.zero_lt_succ _)).toNat : Int) == 48) = false := by show ((c.toNat : Int) == 48) = false; simp; omega
  clear h
  go_enter Tryd.func40, Tryd.ntmps40
  go_wp2_with (fail)
  go_loop [3] (fun a => ∃ k : Nat, k ≤ (c :: t).length ∧ a = .int .i64 k ∧ Hid (firstD ⟨(c :: t).toArray⟩ k)) (fun a => (c :: t).length - (intOf a).toNat)
  case atStart => exact ⟨0, Nat.zero_le _, rfl, Lib.hid (fun j _ hj => absurd hj (by omega))⟩
  case round =>
    obtain ⟨k, hk, rfl, hf⟩ := hrel
    by_cases hlt : k < (c :: t).length
    · have hs : k < (⟨(c :: t).toArray⟩ : ByteArray).size := hlt
      have hi : (k : Int) < (t.length : Int) + 1 := by simp only [List.length_cons] at hlt; omega
      by_cases hd : digB ((⟨(c :: t).toArray⟩ : ByteArray)[k]'hs) = true
      · have hN := Lib.hid (show firstD ⟨(c :: t).toArray⟩ (k + 1) from fun j hj hjk => by
          rcases Nat.lt_or_ge j k with h | h
          · exact hf.out j hj h
          · obtain rfl : j = k := by omega
            exact hd)
        have hb : 48 ≤ ((⟨(c :: t).toArray⟩ : ByteArray)[k]'hs).toNat ∧ ((⟨(c :: t).toArray⟩ : ByteArray)[k]'hs).toNat ≤ 57 := by simpa [digB] using hd
        have d1 : decide ((((⟨(c :: t).toArray⟩ : ByteArray)[k]'hs).toNat : Int) < 48) = false := by simp; omega
        have d2 : decide ((57 : Int) < (((⟨(c :: t).toArray⟩ : ByteArray)[k]'hs).toNat : Int)) = false := by simp; omega
        clear hd hb
        go_wp2_with (fail)
        go_round
        case rel => exact ⟨k + 1, by omega, by go_num, hN⟩
        case measure => simp only [List.length_cons] at hlt ⊢; simp [intOf]; omega
      · have hN := Lib.hid (all_no (l := c :: t) hs (by simpa using hd))
        rcases Nat.lt_or_ge ((⟨(c :: t).toArray⟩ : ByteArray)[k]'hs).toNat 48 with h48 | h48
        · have d1 : decide ((((⟨(c :: t).toArray⟩ : ByteArray)[k]'hs).toNat : Int) < 48) = true := by simp; omega
          have d2 : (((⟨(c :: t).toArray⟩ : ByteArray)[k]'hs).toNat : Int) < 48 := by omega
          clear hd h48
          go_wp2_with (fail)
          go_ret
          exact ⟨ret_b (by rw [← HRR.out, hN.out]), rfl⟩
        · have hb : 57 < ((⟨(c :: t).toArray⟩ : ByteArray)[k]'hs).toNat := by
            rcases Nat.lt_or_ge 57 ((⟨(c :: t).toArray⟩ : ByteArray)[k]'hs).toNat with h | h
            · exact h
            · exact absurd (show digB ((⟨(c :: t).toArray⟩ : ByteArray)[k]'hs) = true by simp [digB, h48, h]) hd
          have d1 : decide ((((⟨(c :: t).toArray⟩ : ByteArray)[k]'hs).toNat : Int) < 48) = false := by simp; omega
          have d2 : decide ((57 : Int) < (((⟨(c :: t).toArray⟩ : ByteArray)[k]'hs).toNat : Int)) = true := by simp; omega
          have d3 : (57 : Int) < (((⟨(c :: t).toArray⟩ : ByteArray)[k]'hs).toNat : Int) := by omega
          clear hd h48 hb
          go_wp2_with (fail)
          go_ret
          exact ⟨ret_b (by rw [← HRR.out, hN.out]), rfl⟩
    · have hke : k = (c :: t).length := by omega
      have hN := Lib.hid (all_of (l := c :: t) (by rw [← hke]; exact hf.out))
      have hi : decide ((k : Int) < (t.length : Int) + 1) = false := by simp only [List.length_cons] at hke; simp; omega
      clear hke hlt
      go_wp2_with (fail)
      go_ret
      exact ⟨ret_b (by rw [← HRR.out, hN.out]), rfl⟩
set_option maxRecDepth 100000 in
set_option maxHeartbeats 1000000 in
theorem form_z (c d : UInt8) (t : List UInt8) (w : World) (h : c.toNat = 48) (hl : t.length ≤ 1000000) :
    Calls Tryd.prog 40 #[.string ⟨(c :: d :: t).toArray⟩] w fun e w' => e = .returned (.bool false) ∧ w = w' := by
  have h1 : ((((⟨(c :: d :: t).toArray⟩ : ByteArray)[0]'(Nat.zero_lt_succ _)).toNat : Int) == 48) = true := by show ((c.toNat : Int) == 48) = true; simp; omega
  have h2 : ((((⟨(c :: d :: t).toArray⟩ : ByteArray)[0]'(Nat.zero_lt_succ _)).toNat : Int) == 45) = false := by show ((c.toNat : Int) == 45) = false; simp; omega
  clear h
  go_enter Tryd.func40, Tryd.ntmps40
  go_wp2_with (fail)
  go_ret
  exact ⟨rfl, rfl⟩
set_option maxRecDepth 100000 in
set_option maxHeartbeats 1000000 in
theorem form_d (c : UInt8) (t : List UInt8) (r : Bool) (hr : (c :: t).all digB = r) (w : World) (h : c.toNat ≠ 48) (h' : c.toNat ≠ 45) (hl : t.length ≤ 1000000) :
    Calls Tryd.prog 40 #[.string ⟨(c :: t).toArray⟩] w fun e w' => e = .returned (.bool r) ∧ w = w' := by
  have HRR := Lib.hid hr
  clear hr
  have h1 : ((((⟨(c :: t).toArray⟩ : ByteArray)[0]'(Nat.zero_lt_succ _)).toNat : Int) == 48) = false := by show ((c.toNat : Int) == 48) = false; simp; omega
  have h2 : ((((⟨(c :: t).toArray⟩ : ByteArray)[0]'(Nat.zero_lt_succ _)).toNat : Int) == 45) = false := by show ((c.toNat : Int) == 45) = false; simp; omega
  have h3 : ((c :: t : List UInt8) == [48]) = false := by
    simp only [beq_eq_false_iff_ne]
    intro e
    simp only [List.cons.injEq] at e
    exact h (by rw [e.1]; rfl)
  clear h h'
  go_enter Tryd.func40, Tryd.ntmps40
  go_wp2_with (fail)
  go_loop [3] (fun a => ∃ k : Nat, k ≤ (c :: t).length ∧ a = .int .i64 k ∧ Hid (firstD ⟨(c :: t).toArray⟩ k)) (fun a => (c :: t).length - (intOf a).toNat)
  case atStart => exact ⟨0, Nat.zero_le _, rfl, Lib.hid (fun j _ hj => absurd hj (by omega))⟩
  case round =>
    obtain ⟨k, hk, rfl, hf⟩ := hrel
    by_cases hlt : k < (c :: t).length
    · have hs : k < (⟨(c :: t).toArray⟩ : ByteArray).size := hlt
      have hi : (k : Int) < (t.length : Int) + 1 := by simp only [List.length_cons] at hlt; omega
      by_cases hd : digB ((⟨(c :: t).toArray⟩ : ByteArray)[k]'hs) = true
      · have hN := Lib.hid (show firstD ⟨(c :: t).toArray⟩ (k + 1) from fun j hj hjk => by
          rcases Nat.lt_or_ge j k with h | h
          · exact hf.out j hj h
          · obtain rfl : j = k := by omega
            exact hd)
        have hb : 48 ≤ ((⟨(c :: t).toArray⟩ : ByteArray)[k]'hs).toNat ∧ ((⟨(c :: t).toArray⟩ : ByteArray)[k]'hs).toNat ≤ 57 := by simpa [digB] using hd
        have d1 : decide ((((⟨(c :: t).toArray⟩ : ByteArray)[k]'hs).toNat : Int) < 48) = false := by simp; omega
        have d2 : decide ((57 : Int) < (((⟨(c :: t).toArray⟩ : ByteArray)[k]'hs).toNat : Int)) = false := by simp; omega
        clear hd hb
        go_wp2_with (fail)
        go_round
        case rel => exact ⟨k + 1, by omega, by go_num, hN⟩
        case measure => simp only [List.length_cons] at hlt ⊢; simp [intOf]; omega
      · have hN := Lib.hid (all_no (l := c :: t) hs (by simpa using hd))
        rcases Nat.lt_or_ge ((⟨(c :: t).toArray⟩ : ByteArray)[k]'hs).toNat 48 with h48 | h48
        · have d1 : decide ((((⟨(c :: t).toArray⟩ : ByteArray)[k]'hs).toNat : Int) < 48) = true := by simp; omega
          have d2 : (((⟨(c :: t).toArray⟩ : ByteArray)[k]'hs).toNat : Int) < 48 := by omega
          clear hd h48
          go_wp2_with (fail)
          go_ret
          exact ⟨ret_b (by rw [← HRR.out, hN.out]), rfl⟩
        · have hb : 57 < ((⟨(c :: t).toArray⟩ : ByteArray)[k]'hs).toNat := by
            rcases Nat.lt_or_ge 57 ((⟨(c :: t).toArray⟩ : ByteArray)[k]'hs).toNat with h | h
            · exact h
            · exact absurd (show digB ((⟨(c :: t).toArray⟩ : ByteArray)[k]'hs) = true by simp [digB, h48, h]) hd
          have d1 : decide ((((⟨(c :: t).toArray⟩ : ByteArray)[k]'hs).toNat : Int) < 48) = false := by simp; omega
          have d2 : decide ((57 : Int) < (((⟨(c :: t).toArray⟩ : ByteArray)[k]'hs).toNat : Int)) = true := by simp; omega
          have d3 : (57 : Int) < (((⟨(c :: t).toArray⟩ : ByteArray)[k]'hs).toNat : Int) := by omega
          clear hd h48 hb
          go_wp2_with (fail)
          go_ret
          exact ⟨ret_b (by rw [← HRR.out, hN.out]), rfl⟩
    · have hke : k = (c :: t).length := by omega
      have hN := Lib.hid (all_of (l := c :: t) (by rw [← hke]; exact hf.out))
      have hi : decide ((k : Int) < (t.length : Int) + 1) = false := by simp only [List.length_cons] at hke; simp; omega
      clear hke hlt
      go_wp2_with (fail)
      go_ret
      exact ⟨ret_b (by rw [← HRR.out, hN.out]), rfl⟩
theorem u8_of {c : UInt8} {n : Nat} (h : c.toNat = n) (hn : n < 256) : c = UInt8.ofNat n := by
  apply UInt8.toNat_inj.1
  rw [h, UInt8.toNat_ofNat_of_lt' (by show n < 256; exact hn)]
theorem parD_minus (t : List UInt8) : parN (45 :: t) = true ∧ parD (45 :: t) = t := by
  have h : Lib.hasPrefix (45 :: t) [45] = true := by simp [Lib.hasPrefix]
  refine ⟨h, ?_⟩
  unfold parD Lib.trimPrefix
  rw [if_pos h]; rfl
theorem parD_plain {c : UInt8} {t : List UInt8} (hc : c.toNat ≠ 45) : parN (c :: t) = false ∧ parD (c :: t) = c :: t := by
  have hne : c ≠ 45 := fun e => hc (by rw [e]; rfl)
  have h : Lib.hasPrefix (c :: t) [45] = false := by
    show (45 == c && true) = false
    rw [show ((45 : UInt8) == c) = false from by simpa using Ne.symm hne]; rfl
  refine ⟨h, ?_⟩
  unfold parD Lib.trimPrefix
  rw [if_neg (by rw [h]; simp)]
theorem form_any (l : List UInt8) (w : World) (hl : l.length ≤ 300) : Calls Tryd.prog 40 #[.string ⟨l.toArray⟩] w fun e w' => e = .returned (.bool (parOk l)) ∧ w = w' := by
  match l, hl with
  | [], _ => rw [show parOk [] = false from by decide]; exact form_nil w
  | c :: t, hl =>
    simp only [List.length_cons] at hl
    by_cases h45 : c.toNat = 45
    · obtain rfl : c = 45 := u8_of (n := 45) h45 (by decide)
      obtain ⟨e1, e2⟩ := parD_minus t
      match t, hl, e1, e2 with
      | [], _, _, _ => rw [show parOk [45] = false from by decide]; exact form_m w
      | d :: t, hl, e1, e2 =>
        simp only [List.length_cons] at hl
        unfold parOk
        rw [e1, e2]
        by_cases h48 : d.toNat = 48
        · have : (decB (d :: t) && !(true && decide (d :: t = [48]))) = false := by
            cases t with
            | nil => obtain rfl : d = 48 := u8_of (n := 48) h48 (by decide); simp
            | cons x t => rw [decB_zero h48 (by simp)]; rfl
          rw [this]
          exact form_mz d t w h48 (by omega)
        · have hne : ¬ d :: t = [48] := fun e => h48 (by simp only [List.cons.injEq] at e; rw [e.1]; rfl)
          rw [decB_loop (fun h => h48 h.1), decide_eq_false hne]
          simp only [Bool.and_false, Bool.not_false, Bool.and_true]
          exact form_md d t _ rfl w h48 (by omega)
    · obtain ⟨e1, e2⟩ := parD_plain (t := t) h45
      unfold parOk
      rw [e1, e2]
      simp only [Bool.false_and, Bool.not_false, Bool.and_true]
      by_cases h48 : c.toNat = 48
      · match t, hl with
        | [], _ => obtain rfl : c = 48 := u8_of (n := 48) h48 (by decide); rw [show decB [48] = true from by decide]; exact form_zero w
        | d :: t, hl =>
          simp only [List.length_cons] at hl
          rw [decB_zero h48 (by simp)]
          exact form_z c d t w h48 (by omega)
      · rw [decB_loop (fun h => h48 h.1)]
        exact form_d c t _ rfl w h48 h45 (by omega)
end Go.Proofs.YtkofhjjfngnmmaaDoor
