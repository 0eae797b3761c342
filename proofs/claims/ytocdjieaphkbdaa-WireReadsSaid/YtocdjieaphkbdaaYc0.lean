/- The reference of wire: groups are read. -/
import Derived.Test.YtocdjieaphkbdaaYb0
namespace Go.Proofs.Ytocdjieaphkbdaa
open Go.RowKit

/-- Three results of the reference. -/
def tup {α : Type} (F : α → Value) (Z : Value) : Rd α → Value
  | .bad e => .tuple #[Z, .int .i64 0, .int .i64 e]
  | .good v k => .tuple #[F v, .int .i64 k, .int .i64 0]
theorem ung_last9 {n z : Nat} {r : List Int} (hz : z < 256) : ung 1 8 n ((z : Int) :: r) = if z = 0 ∨ 127 < z then .bad 6 else .good (n + z * 128 ^ 8) 9 := by
  by_cases h : z = 0 ∨ 127 < z
  · rw [if_pos h]
    rcases h with rfl | h
    · exact ung_bad2 (by decide)
    · rw [ung_next (by have : z % 128 < 128 := Nat.mod_lt _ (by decide); omega) (by omega)]
      rfl
  · rw [if_neg h, ung_good (by have : z % 128 < 128 := Nat.mod_lt _ (by decide); omega) (by omega) (by omega), Nat.mod_eq_of_lt (by omega)]
theorem ung_last10 {n z : Nat} {r : List Int} (hz : z < 256) : ung 1 9 n ((z : Int) :: r) = if z = 0 ∨ 1 < z then .bad 6 else .good (n + z * 128 ^ 9) 10 := by
  by_cases h : z = 0 ∨ 1 < z
  · rw [if_pos h]
    rcases h with rfl | h
    · exact ung_bad2 (by decide)
    · by_cases g : 18446744073709551616 ≤ z % 128 * 128 ^ 9
      · exact ung_bad1 (by rw [Int.toNat_natCast]; exact g)
      · rw [ung_next g (by omega)]
        rfl
  · rw [if_neg h, ung_good (by omega) (by omega) (by omega), Nat.mod_eq_of_lt (by omega)]
set_option maxRecDepth 100000 in
set_option maxHeartbeats 4000000 in
theorem refUngroup9 {w : World} {P : Nat → Prop} {A : Option Addr} {m c : Nat} {bd : List Int} (hr : Rw w P .u8 (.slice A m c) bd) (hm : bd.length = m) (hb : Bys8 bd) (hlm : m < 1000000) :
    Calls Try.prog 48 #[.slice A m c, .int .i64 9, .int .u64 9223372036854775807] w fun r w' => r = .returned (tup (fun v : Nat => .int .u64 v) (.int .u64 0) (ung 9 0 0 bd)) ∧ w' = w := by
  have HR := Lib.hid hr
  have HM := Lib.hid hm
  have HB := Lib.hid hb
  clear hr hm hb
  go_enter Try.func48, Try.ntmps48
  go_wp2_with (fail)
  go_loopw [9, 10] (fun nv i wx => ∃ (j nn : Nat), i = .int .i64 j ∧ nv = .int .u64 nn ∧ j < 9 ∧ j ≤ m ∧ wx = w ∧ Hid (ung 9 0 0 bd = ung (9 - j) j nn (bd.drop j) ∧ nn < 128 ^ j)) (fun _ i _ => 9 - (intOf i).toNat)
  case atStart => exact ⟨0, 0, rfl, rfl, by decide, Nat.zero_le _, rfl, Lib.hid ⟨rfl, by decide⟩⟩
  case round =>
    obtain ⟨j, nn, rfl, rfl, hj, hjm, rfl, hu⟩ := hrel
    by_cases g1 : j < m
    · have q0 : ((j : Int) == (m : Int)) = false := by simp; omega
      have hjl : j < bd.length := by rw [HM.out]; exact g1
      obtain ⟨b, o, rfl, hPb, hbl, hcl⟩ := HR.out.at (by omega)
      have cz := hcl j hjl
      obtain ⟨z, hz1, hz2⟩ : ∃ z : Nat, at_ bd j = z ∧ z < 256 := by
        have h2 := HB.out _ (List.getElem_mem hjl)
        have e : at_ bd j = bd[j] := by simp [at_, hjl]
        unfold By at h2
        exact ⟨(at_ bd j).toNat, by omega, by omega⟩
      rw [hz1] at cz
      have hdr : bd.drop j = (z : Int) :: bd.drop (j + 1) := by rw [dropped hjl, hz1]
      obtain ⟨hu1, hu2⟩ := hu.out
      rw [hdr] at hu1
      have HU1 := Lib.hid hu1
      have HU2 := Lib.hid hu2
      have hz6 : (z : Int) < 256 := by omega
      have HZ := Lib.hid hz2
      by_cases g2 : j = 8
      · have q1 : ((j : Int) == 8) = true := by subst g2; decide
        have HJ := Lib.hid g2
        have HE : Hid (ung 9 0 0 bd = if z = 0 ∨ 127 < z then .bad 6 else .good (nn + z * 128 ^ 8) 9) := Lib.hid (by rw [HU1.out, HJ.out]; exact ung_last9 hz2)
        have q4 : (9223372036854775807 : Int) / 2 ^ (7 * j) = 127 := by subst g2; decide
        clear hdr hu1 hu hcl hz1 hu2 g2
        by_cases g3 : z = 0
        · subst g3
          go_wp2_with (fail)
          rw [HE.out, if_pos (Or.inl trivial)]
          exact bodyPost_ret (v := .tuple #[.int .u64 0, .int .i64 0, .int .i64 6]) (by simp [results, Try.results48, go_sem]) rfl ⟨rfl, rfl⟩
        · have q2 : ((z : Int) == 0) = false := by simp; omega
          by_cases g4 : 127 < z
          · have q3 : (z : Int) > 127 := by omega
            go_wp2_with (fail)
            rw [HE.out, if_pos (.inr g4)]
            exact bodyPost_ret (v := .tuple #[.int .u64 0, .int .i64 0, .int .i64 6]) (by simp [results, Try.results48, go_sem]) rfl ⟨rfl, rfl⟩
          · have q3 : ¬ (z : Int) > 127 := by omega
            have q5 : IntKind.u64.wrap ((z : Int) * 2 ^ (7 * j)) = ((z * 128 ^ j : Nat) : Int) := by rw [Nat.mul_comm 7 j, shl_fact, Nat.mod_eq_of_lt (by rw [HJ.out]; omega)]
            have q6 : bits .or .u64 (nn : Int) ((z * 128 ^ j : Nat) : Int) = ((nn + z * 128 ^ j : Nat) : Int) := or_fact rfl HU2.out (by rw [HJ.out]; omega) (by have := HU2.out; rw [HJ.out] at this; omega)
            obtain ⟨y, hy⟩ : ∃ y, z * 128 ^ j = y := ⟨_, rfl⟩
            rw [hy] at q5 q6
            have HY := Lib.hid hy
            clear hy
            go_wp2_with (fail)
            rw [HE.out, if_neg (by omega)]
            have e1 := HY.out
            have e2 := HJ.out
            subst e2 e1
            exact bodyPost_ret (v := .tuple #[.int .u64 ((nn + z * 128 ^ 8 : Nat) : Int), .int .i64 9, .int .i64 0]) (by simp [results, Try.results48, go_sem]) rfl ⟨rfl, rfl⟩
      · have q1 : ((j : Int) == 8) = false := by simp; omega
        obtain ⟨mk, hmk⟩ : ∃ mk, 9 - j = mk + 1 := ⟨9 - j - 1, by omega⟩
        rw [hmk] at hu1
        have HU3 := Lib.hid hu1
        have HMK := Lib.hid hmk
        have hq : ¬ 18446744073709551616 ≤ z % 128 * 128 ^ j := by
          have h1 : z % 128 < 128 := Nat.mod_lt _ (by decide)
          have h2 : 128 ^ j ≤ 128 ^ 8 := Nat.pow_le_pow_right (by decide) (by omega)
          have h3 : z % 128 * 128 ^ j ≤ 127 * 128 ^ j := Nat.mul_le_mul_right _ (by omega)
          have h4 : 128 ^ 8 = 72057594037927936 := by decide
          omega
        have h5 : nn + z % 128 * 128 ^ j < 128 ^ (j + 1) := by
          have h1 : z % 128 < 128 := Nat.mod_lt _ (by decide)
          have h3 : z % 128 * 128 ^ j ≤ 127 * 128 ^ j := Nat.mul_le_mul_right _ (by omega)
          rw [pow128]
          omega
        obtain ⟨s, hs⟩ : ∃ s : Nat, z % 128 = s := ⟨_, rfl⟩
        have hsi : (z : Int) % 128 = s := by omega
        have hs8 : (s : Int) < 128 := by omega
        have q5 : IntKind.u64.wrap ((s : Int) * 2 ^ (7 * j)) = ((s * 128 ^ j : Nat) : Int) := by rw [Nat.mul_comm 7 j, shl_fact, Nat.mod_eq_of_lt (by rw [← hs]; omega)]
        have hnn : nn < 18446744073709551616 := by
          have h2 : 128 ^ j ≤ 128 ^ 8 := Nat.pow_le_pow_right (by decide) (by omega)
          have h4 : 128 ^ 8 = 72057594037927936 := by decide
          omega
        have q6 : bits .or .u64 (nn : Int) ((s * 128 ^ j : Nat) : Int) = ((nn + s * 128 ^ j : Nat) : Int) := or_fact rfl hu2 (by rw [← hs]; omega) hnn
        obtain ⟨y, hy⟩ : ∃ y, s * 128 ^ j = y := ⟨_, rfl⟩
        obtain ⟨n2, hn2⟩ : ∃ n2, nn + y = n2 := ⟨_, rfl⟩
        rw [hs, hy] at hq h5
        rw [hy] at q5 q6
        rw [hn2] at q6 h5
        have HQ : Hid (¬ 18446744073709551616 ≤ z % 128 * 128 ^ j ∧ nn + z % 128 * 128 ^ j = n2) := Lib.hid ⟨by rw [hs, hy]; exact hq, by rw [hs, hy]; exact hn2⟩
        have H5 := Lib.hid h5
        clear hdr hu1 hu hcl hz1 hu2 hmk hs hy hn2 hq h5 hnn
        by_cases g3 : z < 128
        · have q7 : (z : Int) < 128 := by omega
          by_cases g4 : 0 < j
          · have q8 : (j : Int) > 0 := by omega
            by_cases g5 : z = 0
            · subst g5
              have HE : Hid (ung 9 0 0 bd = .bad 6) := Lib.hid (by rw [HU3.out]; exact ung_bad2 g4)
              go_wp2_with (fail)
              rw [HE.out]
              exact bodyPost_ret (v := .tuple #[.int .u64 0, .int .i64 0, .int .i64 6]) (by simp [results, Try.results48, go_sem]) rfl ⟨rfl, rfl⟩
            · have q9 : ((z : Int) == 0) = false := by simp; omega
              have HE : Hid (ung 9 0 0 bd = .good n2 (j + 1)) := Lib.hid (by rw [HU3.out, ung_good HQ.out.1 (by omega) g3, HQ.out.2])
              go_wp2_with (fail)
              rw [HE.out]
              exact bodyPost_ret (v := .tuple #[.int .u64 n2, .int .i64 ((j + 1 : Nat) : Int), .int .i64 0]) (by simp [results, Try.results48, go_sem]) rfl ⟨rfl, rfl⟩
          · have q8 : ¬ (j : Int) > 0 := by omega
            have HE : Hid (ung 9 0 0 bd = .good n2 (j + 1)) := Lib.hid (by rw [HU3.out, ung_good HQ.out.1 (by omega) g3, HQ.out.2])
            go_wp2_with (fail)
            rw [HE.out]
            exact bodyPost_ret (v := .tuple #[.int .u64 n2, .int .i64 ((j + 1 : Nat) : Int), .int .i64 0]) (by simp [results, Try.results48, go_sem]) rfl ⟨rfl, rfl⟩
        · have q7 : ¬ (z : Int) < 128 := by omega
          have HN : Hid (ung 9 0 0 bd = ung (9 - (j + 1)) (j + 1) n2 (bd.drop (j + 1)) ∧ n2 < 128 ^ (j + 1)) := Lib.hid ⟨by rw [HU3.out, ung_next HQ.out.1 (by omega), HQ.out.2, show 9 - (j + 1) = mk by have := HMK.out; omega], H5.out⟩
          go_wp2_with (fail)
          go_roundw
          case rel => exact ⟨j + 1, n2, by go_num, rfl, by omega, by omega, by trivial, HN⟩
          case measure => simp [intOf]; omega
    · obtain rfl : j = m := by omega
      have HE : Hid (ung 9 0 0 bd = .bad 4) := Lib.hid (by
        obtain ⟨mk, hmk⟩ : ∃ mk, 9 - j = mk + 1 := ⟨9 - j - 1, by omega⟩
        rw [hu.out.1, hmk, List.drop_of_length_le (by rw [HM.out]; omega)]
        rfl)
      clear hu
      go_wp2_with (fail)
      rw [HE.out]
      exact bodyPost_ret (v := .tuple #[.int .u64 0, .int .i64 0, .int .i64 4]) (by simp [results, Try.results48, go_sem]) rfl ⟨rfl, rfl⟩
set_option maxRecDepth 100000 in
set_option maxHeartbeats 4000000 in
theorem refUngroup10 {w : World} {P : Nat → Prop} {A : Option Addr} {m c : Nat} {bd : List Int} (hr : Rw w P .u8 (.slice A m c) bd) (hm : bd.length = m) (hb : Bys8 bd) (hlm : m < 1000000) :
    Calls Try.prog 48 #[.slice A m c, .int .i64 10, .int .u64 18446744073709551615] w fun r w' => r = .returned (tup (fun v : Nat => .int .u64 v) (.int .u64 0) (ung 10 0 0 bd)) ∧ w' = w := by
  have HR := Lib.hid hr
  have HM := Lib.hid hm
  have HB := Lib.hid hb
  clear hr hm hb
  go_enter Try.func48, Try.ntmps48
  go_wp2_with (fail)
  go_loopw [9, 10] (fun nv i wx => ∃ (j nn : Nat), i = .int .i64 j ∧ nv = .int .u64 nn ∧ j < 10 ∧ j ≤ m ∧ wx = w ∧ Hid (ung 10 0 0 bd = ung (10 - j) j nn (bd.drop j) ∧ nn < 128 ^ j)) (fun _ i _ => 10 - (intOf i).toNat)
  case atStart => exact ⟨0, 0, rfl, rfl, by decide, Nat.zero_le _, rfl, Lib.hid ⟨rfl, by decide⟩⟩
  case round =>
    obtain ⟨j, nn, rfl, rfl, hj, hjm, rfl, hu⟩ := hrel
    by_cases g1 : j < m
    · have q0 : ((j : Int) == (m : Int)) = false := by simp; omega
      have hjl : j < bd.length := by rw [HM.out]; exact g1
      obtain ⟨b, o, rfl, hPb, hbl, hcl⟩ := HR.out.at (by omega)
      have cz := hcl j hjl
      obtain ⟨z, hz1, hz2⟩ : ∃ z : Nat, at_ bd j = z ∧ z < 256 := by
        have h2 := HB.out _ (List.getElem_mem hjl)
        have e : at_ bd j = bd[j] := by simp [at_, hjl]
        unfold By at h2
        exact ⟨(at_ bd j).toNat, by omega, by omega⟩
      rw [hz1] at cz
      have hdr : bd.drop j = (z : Int) :: bd.drop (j + 1) := by rw [dropped hjl, hz1]
      obtain ⟨hu1, hu2⟩ := hu.out
      rw [hdr] at hu1
      have HU1 := Lib.hid hu1
      have HU2 := Lib.hid hu2
      have hz6 : (z : Int) < 256 := by omega
      have HZ := Lib.hid hz2
      by_cases g2 : j = 9
      · have q1 : ((j : Int) == 9) = true := by subst g2; decide
        have HJ := Lib.hid g2
        have HE : Hid (ung 10 0 0 bd = if z = 0 ∨ 1 < z then .bad 6 else .good (nn + z * 128 ^ 9) 10) := Lib.hid (by rw [HU1.out, HJ.out]; exact ung_last10 hz2)
        have q4 : (18446744073709551615 : Int) / 2 ^ (7 * j) = 1 := by subst g2; decide
        clear hdr hu1 hu hcl hz1 hu2 g2
        by_cases g3 : z = 0
        · subst g3
          go_wp2_with (fail)
          rw [HE.out, if_pos (Or.inl trivial)]
          exact bodyPost_ret (v := .tuple #[.int .u64 0, .int .i64 0, .int .i64 6]) (by simp [results, Try.results48, go_sem]) rfl ⟨rfl, rfl⟩
        · have q2 : ((z : Int) == 0) = false := by simp; omega
          by_cases g4 : 1 < z
          · have q3 : (z : Int) > 1 := by omega
            go_wp2_with (fail)
            rw [HE.out, if_pos (.inr g4)]
            exact bodyPost_ret (v := .tuple #[.int .u64 0, .int .i64 0, .int .i64 6]) (by simp [results, Try.results48, go_sem]) rfl ⟨rfl, rfl⟩
          · have q3 : ¬ (z : Int) > 1 := by omega
            have q5 : IntKind.u64.wrap ((z : Int) * 2 ^ (7 * j)) = ((z * 128 ^ j : Nat) : Int) := by rw [Nat.mul_comm 7 j, shl_fact, Nat.mod_eq_of_lt (by rw [HJ.out]; omega)]
            have q6 : bits .or .u64 (nn : Int) ((z * 128 ^ j : Nat) : Int) = ((nn + z * 128 ^ j : Nat) : Int) := or_fact rfl HU2.out (by rw [HJ.out]; omega) (by have := HU2.out; rw [HJ.out] at this; omega)
            obtain ⟨y, hy⟩ : ∃ y, z * 128 ^ j = y := ⟨_, rfl⟩
            rw [hy] at q5 q6
            have HY := Lib.hid hy
            clear hy
            go_wp2_with (fail)
            rw [HE.out, if_neg (by omega)]
            have e1 := HY.out
            have e2 := HJ.out
            subst e2 e1
            exact bodyPost_ret (v := .tuple #[.int .u64 ((nn + z * 128 ^ 9 : Nat) : Int), .int .i64 10, .int .i64 0]) (by simp [results, Try.results48, go_sem]) rfl ⟨rfl, rfl⟩
      · have q1 : ((j : Int) == 9) = false := by simp; omega
        obtain ⟨mk, hmk⟩ : ∃ mk, 10 - j = mk + 1 := ⟨10 - j - 1, by omega⟩
        rw [hmk] at hu1
        have HU3 := Lib.hid hu1
        have HMK := Lib.hid hmk
        have hq : ¬ 18446744073709551616 ≤ z % 128 * 128 ^ j := by
          have h1 : z % 128 < 128 := Nat.mod_lt _ (by decide)
          have h2 : 128 ^ j ≤ 128 ^ 8 := Nat.pow_le_pow_right (by decide) (by omega)
          have h3 : z % 128 * 128 ^ j ≤ 127 * 128 ^ j := Nat.mul_le_mul_right _ (by omega)
          have h4 : 128 ^ 8 = 72057594037927936 := by decide
          omega
        have h5 : nn + z % 128 * 128 ^ j < 128 ^ (j + 1) := by
          have h1 : z % 128 < 128 := Nat.mod_lt _ (by decide)
          have h3 : z % 128 * 128 ^ j ≤ 127 * 128 ^ j := Nat.mul_le_mul_right _ (by omega)
          rw [pow128]
          omega
        obtain ⟨s, hs⟩ : ∃ s : Nat, z % 128 = s := ⟨_, rfl⟩
        have hsi : (z : Int) % 128 = s := by omega
        have hs8 : (s : Int) < 128 := by omega
        have q5 : IntKind.u64.wrap ((s : Int) * 2 ^ (7 * j)) = ((s * 128 ^ j : Nat) : Int) := by rw [Nat.mul_comm 7 j, shl_fact, Nat.mod_eq_of_lt (by rw [← hs]; omega)]
        have hnn : nn < 18446744073709551616 := by
          have h2 : 128 ^ j ≤ 128 ^ 8 := Nat.pow_le_pow_right (by decide) (by omega)
          have h4 : 128 ^ 8 = 72057594037927936 := by decide
          omega
        have q6 : bits .or .u64 (nn : Int) ((s * 128 ^ j : Nat) : Int) = ((nn + s * 128 ^ j : Nat) : Int) := or_fact rfl hu2 (by rw [← hs]; omega) hnn
        obtain ⟨y, hy⟩ : ∃ y, s * 128 ^ j = y := ⟨_, rfl⟩
        obtain ⟨n2, hn2⟩ : ∃ n2, nn + y = n2 := ⟨_, rfl⟩
        rw [hs, hy] at hq h5
        rw [hy] at q5 q6
        rw [hn2] at q6 h5
        have HQ : Hid (¬ 18446744073709551616 ≤ z % 128 * 128 ^ j ∧ nn + z % 128 * 128 ^ j = n2) := Lib.hid ⟨by rw [hs, hy]; exact hq, by rw [hs, hy]; exact hn2⟩
        have H5 := Lib.hid h5
        clear hdr hu1 hu hcl hz1 hu2 hmk hs hy hn2 hq h5 hnn
        by_cases g3 : z < 128
        · have q7 : (z : Int) < 128 := by omega
          by_cases g4 : 0 < j
          · have q8 : (j : Int) > 0 := by omega
            by_cases g5 : z = 0
            · subst g5
              have HE : Hid (ung 10 0 0 bd = .bad 6) := Lib.hid (by rw [HU3.out]; exact ung_bad2 g4)
              go_wp2_with (fail)
              rw [HE.out]
              exact bodyPost_ret (v := .tuple #[.int .u64 0, .int .i64 0, .int .i64 6]) (by simp [results, Try.results48, go_sem]) rfl ⟨rfl, rfl⟩
            · have q9 : ((z : Int) == 0) = false := by simp; omega
              have HE : Hid (ung 10 0 0 bd = .good n2 (j + 1)) := Lib.hid (by rw [HU3.out, ung_good HQ.out.1 (by omega) g3, HQ.out.2])
              go_wp2_with (fail)
              rw [HE.out]
              exact bodyPost_ret (v := .tuple #[.int .u64 n2, .int .i64 ((j + 1 : Nat) : Int), .int .i64 0]) (by simp [results, Try.results48, go_sem]) rfl ⟨rfl, rfl⟩
          · have q8 : ¬ (j : Int) > 0 := by omega
            have HE : Hid (ung 10 0 0 bd = .good n2 (j + 1)) := Lib.hid (by rw [HU3.out, ung_good HQ.out.1 (by omega) g3, HQ.out.2])
            go_wp2_with (fail)
            rw [HE.out]
            exact bodyPost_ret (v := .tuple #[.int .u64 n2, .int .i64 ((j + 1 : Nat) : Int), .int .i64 0]) (by simp [results, Try.results48, go_sem]) rfl ⟨rfl, rfl⟩
        · have q7 : ¬ (z : Int) < 128 := by omega
          have HN : Hid (ung 10 0 0 bd = ung (10 - (j + 1)) (j + 1) n2 (bd.drop (j + 1)) ∧ n2 < 128 ^ (j + 1)) := Lib.hid ⟨by rw [HU3.out, ung_next HQ.out.1 (by omega), HQ.out.2, show 10 - (j + 1) = mk by have := HMK.out; omega], H5.out⟩
          go_wp2_with (fail)
          go_roundw
          case rel => exact ⟨j + 1, n2, by go_num, rfl, by omega, by omega, by trivial, HN⟩
          case measure => simp [intOf]; omega
    · obtain rfl : j = m := by omega
      have HE : Hid (ung 10 0 0 bd = .bad 4) := Lib.hid (by
        obtain ⟨mk, hmk⟩ : ∃ mk, 10 - j = mk + 1 := ⟨10 - j - 1, by omega⟩
        rw [hu.out.1, hmk, List.drop_of_length_le (by rw [HM.out]; omega)]
        rfl)
      clear hu
      go_wp2_with (fail)
      rw [HE.out]
      exact bodyPost_ret (v := .tuple #[.int .u64 0, .int .i64 0, .int .i64 4]) (by simp [results, Try.results48, go_sem]) rfl ⟨rfl, rfl⟩
end Go.Proofs.Ytocdjieaphkbdaa
