/- Package wire: groups. -/
import Derived.Test.YtocdjieaphkbdaaWh
import Derived.Laws.Bits64b
namespace Go.Proofs.Ytocdjieaphkbdaa
open Go.RowKit

theorem pow7 (j : Nat) : (2 : Int) ^ (j * 7) = ((128 ^ j : Nat) : Int) := by
  rw [Nat.mul_comm, show (128 : Nat) = 2 ^ 7 from rfl, ← Nat.pow_mul]
  exact (Int.natCast_pow 2 (7 * j)).symm
theorem shl_fact (q j : Nat) : IntKind.u64.wrap ((q : Int) * 2 ^ (j * 7)) = ((q * 128 ^ j % 18446744073709551616 : Nat) : Int) := by
  rw [IntKind.wrap_u64, pow7, ← Int.natCast_mul]
  generalize q * 128 ^ j = x
  omega
theorem shr_fact (y j : Nat) : (y : Int) / 2 ^ (j * 7) = ((y / 128 ^ j : Nat) : Int) := by rw [pow7]; exact (Int.natCast_ediv _ _).symm
theorem or_fact {nn y j q : Nat} (hy : y = q * 128 ^ j) (h1 : nn < 128 ^ j) (h2 : y < 18446744073709551616) (h3 : nn < 18446744073709551616) : bits .or .u64 (nn : Int) (y : Int) = ((nn + y : Nat) : Int) := by
  rw [bits_or_u64_nat _ _ h3 h2, Nat.or_comm, hy, show (128 : Nat) = 2 ^ 7 from rfl, ← Nat.pow_mul, Nat.mul_comm q, ← Nat.two_pow_add_eq_or_of_lt (by rw [Nat.pow_mul]; exact h1), Nat.add_comm]
/-- One round: what it reckons. -/
theorem round_fact {z nn j : Nat} (hj : j < 10) (hn : nn < 128 ^ j) :
    ∃ q y u : Nat, (z : Int) % 128 = q ∧ q < 128 ∧ q = z % 128 ∧ IntKind.u64.wrap ((q : Int) * 2 ^ (j * 7)) = y ∧ (y : Int) / 2 ^ (j * 7) = u ∧
      ((18446744073709551616 ≤ q * 128 ^ j ∧ u < q) ∨ (q * 128 ^ j < 18446744073709551616 ∧ y = q * 128 ^ j ∧ u = q ∧ bits .or .u64 (nn : Int) (y : Int) = ((nn + y : Nat) : Int) ∧ nn + y < 128 ^ (j + 1))) := by
  obtain ⟨s, hs⟩ := dvd128 (i := j) (by omega)
  have hX : 0 < 128 ^ j := Nat.pow_pos (by decide)
  have hle : 128 ^ j ≤ 128 ^ 9 := Nat.pow_le_pow_right (by decide) (by omega)
  refine ⟨z % 128, _, _, by omega, Nat.mod_lt _ (by decide), rfl, shl_fact _ _, shr_fact _ _, ?_⟩
  have hq : z % 128 < 128 := Nat.mod_lt _ (by decide)
  generalize z % 128 = q at *
  rcases Nat.lt_or_ge (q * 128 ^ j) 18446744073709551616 with g | g
  · right
    have e : q * 128 ^ j % 18446744073709551616 = q * 128 ^ j := Nat.mod_eq_of_lt g
    rw [e]
    refine ⟨g, rfl, Nat.mul_div_cancel _ hX, or_fact rfl hn g (Nat.lt_of_lt_of_le hn (Nat.le_trans hle (by decide))), ?_⟩
    have hm : q * 128 ^ j ≤ 127 * 128 ^ j := Nat.mul_le_mul_right _ (by omega)
    rw [pow128]
    omega
  · left
    refine ⟨g, ?_⟩
    rw [Nat.div_lt_iff_lt_mul hX]
    exact Nat.lt_of_lt_of_le (Nat.mod_lt _ (by decide)) g
theorem ung_bad1 {k i n : Nat} {c : Int} {r : List Int} (h : 18446744073709551616 ≤ c.toNat % 128 * 128 ^ i) : ung (k + 1) i n (c :: r) = .bad 6 := by unfold ung; rw [if_pos h]
theorem ung_bad2 {k i n : Nat} {r : List Int} (hi : 0 < i) : ung (k + 1) i n (0 :: r) = .bad 6 := by unfold ung; rw [if_neg (by simp), if_pos ⟨rfl, hi⟩]
theorem ung_good {k i n z : Nat} {r : List Int} (h : ¬ 18446744073709551616 ≤ z % 128 * 128 ^ i) (h2 : ¬ (z = 0 ∧ 0 < i)) (h3 : z < 128) : ung (k + 1) i n ((z : Int) :: r) = .good (n + z % 128 * 128 ^ i) (i + 1) := by
  unfold ung
  rw [Int.toNat_natCast, if_neg h, if_neg (by omega), if_pos (by omega)]
theorem ung_next {k i n z : Nat} {r : List Int} (h : ¬ 18446744073709551616 ≤ z % 128 * 128 ^ i) (h3 : 128 ≤ z) : ung (k + 1) i n ((z : Int) :: r) = ung k (i + 1) (n + z % 128 * 128 ^ i) r := by
  rw [ung, Int.toNat_natCast, if_neg h, if_neg (by omega), if_neg (by omega)]
set_option maxRecDepth 100000 in
set_option maxHeartbeats 4000000 in
theorem groups_any {w : World} {g n c k most : Nat} {A : Option Addr} {bd : List Int} (h : Inp w g A n c bd k) (hm : most ≤ 10) :
    Calls Try.prog 73 #[.pointer (some ⟨g, 0, none⟩), .int .i64 most] w (Reads w g A n c bd k (ung most 0 0 (bd.drop k)) fun v _ x => x = .int .u64 v) := by
  have HI := Lib.hid h
  have HC : Hid (Ch (fun i => i = g) w w) := Lib.hid (Ch.refl _ _)
  clear h
  go_enter Try.func73, Try.ntmps73
  go_wp2_with (fail)
  go_loopw [5, 11] (fun nv i wx => ∃ (j nn : Nat), i = .int .i64 j ∧ nv = .int .u64 nn ∧ j ≤ most ∧ Hid (Inp wx g A n c bd (k + j)) ∧ Hid (Ch (fun i => i = g) w wx) ∧ Hid (ung most 0 0 (bd.drop k) = ung (most - j) j nn (bd.drop (k + j)) ∧ nn < 128 ^ j)) (fun _ i _ => most - (intOf i).toNat)
  case atStart => exact ⟨0, 0, rfl, rfl, Nat.zero_le _, HI, HC, Lib.hid ⟨rfl, by decide⟩⟩
  case round =>
    obtain ⟨j, nn, rfl, rfl, hj, hi, hc, hu⟩ := hrel
    clear HI HC
    by_cases g1 : j < most
    · have gI : (j : Int) < most := by omega
      rcases Nat.lt_or_ge (k + j) n with g2 | g2
      · have HO := Lib.hid (one_ok hi.out g2)
        have hz := hi.out.2.2.2.2.2
        obtain ⟨z, hz1, hz2⟩ : ∃ z : Nat, at_ bd (k + j) = z ∧ z < 256 := by
          have h1 : k + j < bd.length := by rw [hi.out.2.2.1]; exact g2
          have h2 := hz _ (List.getElem_mem h1)
          have e : at_ bd (k + j) = bd[k + j] := by simp [at_, h1]
          unfold By at h2
          exact ⟨(at_ bd (k + j)).toNat, by omega, by omega⟩
        have hdr : bd.drop (k + j) = (z : Int) :: bd.drop (k + j + 1) := by rw [dropped (by rw [hi.out.2.2.1]; exact g2), hz1]
        rw [hz1] at HO
        obtain ⟨hu1, hu2⟩ := hu.out
        obtain ⟨mk, hmk⟩ : ∃ mk, most - j = mk + 1 := ⟨most - j - 1, by omega⟩
        rw [hmk, hdr] at hu1
        have HU1 := Lib.hid hu1
        have HMK := Lib.hid hmk
        have HN := Lib.hid hu2
        obtain ⟨q, y, u, e1, e2, e3, e4, e5, hcase⟩ := round_fact (z := z) (by omega : j < 10) hu2
        have HC1 := hc
        clear hz hz1 hdr hu1 hu2 hu hmk hc hi
        rcases hcase with ⟨q1, q2⟩ | ⟨q1, rfl, rfl, q3, q4⟩
        · have hne : ((u : Int) != (q : Int)) = true := by simp; omega
          have HE := Lib.hid (ung_bad1 (k := mk) (i := j) (n := nn) (c := (z : Int)) (r := bd.drop (k + j + 1)) (by rw [Int.toNat_natCast, ← e3]; exact q1))
          clear q1 e3
          go_wp2_with (fail)
          refine HO.out.mono ?_
          rintro e w1 ⟨rfl, h1, k1⟩
          have K1 := Lib.hid (HC1.out.trans k1 fun _ _ h => h)
          clear h1 k1
          go_wp2_with (fail)
          refine ⟨rfl, K1.out, ?_⟩
          rw [HU1.out, HE.out]
          rfl
        · obtain ⟨y, hy⟩ : ∃ y, u * 128 ^ j = y := ⟨_, rfl⟩
          rw [hy] at e4 e5 q3 q4
          have HQ : Hid (¬ 18446744073709551616 ≤ z % 128 * 128 ^ j ∧ z % 128 * 128 ^ j = y) := Lib.hid (by rw [← e3]; exact ⟨by omega, hy⟩)
          have HZ : Hid (u = z % 128) := Lib.hid e3
          have hnf : ((u : Int) != (u : Int)) = false := by simp
          obtain ⟨m2, hm2⟩ : ∃ m2, nn + y = m2 := ⟨_, rfl⟩
          rw [hm2] at q3 q4
          have HM2 := Lib.hid hm2
          have Q4 := Lib.hid q4
          clear q1 e3 hy hm2 q4
          have gk : ∀ a : Nat, k + (a + 1) = k + a + 1 := fun a => rfl
          rcases Nat.lt_or_ge z 128 with g5 | g5
          · rcases Nat.eq_zero_or_pos z with g3 | g3
            · subst g3
              have z0 : (((0 : Nat) : Int) == 0) = true := by decide
              have hy0 : y = 0 := by have := HQ.out.2; simp at this; omega
              subst hy0
              have q5 : bits .or .u64 (nn : Int) 0 = (m2 : Int) := q3
              rcases Nat.eq_zero_or_pos j with g4 | g4
              · subst g4
                have HE : Hid (ung (mk + 1) 0 nn (((0 : Nat) : Int) :: bd.drop (k + 0 + 1)) = .good m2 (0 + 1)) := Lib.hid (by rw [ung_good (z := 0) HQ.out.1 (by omega) (by omega), HQ.out.2, HM2.out])
                go_wp2_with (fail)
                refine HO.out.mono ?_
                rintro e w1 ⟨rfl, h1, k1⟩
                have K1 := Lib.hid (HC1.out.trans k1 fun _ _ h => h)
                have I1 := Lib.hid h1
                clear h1 k1
                go_wp2_with (fail)
                go_ret
                refine ⟨K1.out, ?_⟩
                rw [HU1.out, HE.out]
                exact ⟨⟨_, rfl, rfl⟩, I1.out⟩
              · have gp : (j : Int) > 0 := by omega
                have HE : Hid (ung (mk + 1) j nn (((0 : Nat) : Int) :: bd.drop (k + j + 1)) = .bad 6) := Lib.hid (ung_bad2 (k := mk) (i := j) (n := nn) (r := bd.drop (k + j + 1)) g4)
                go_wp2_with (fail)
                refine HO.out.mono ?_
                rintro e w1 ⟨rfl, h1, k1⟩
                have K1 := Lib.hid (HC1.out.trans k1 fun _ _ h => h)
                clear h1 k1
                go_wp2_with (fail)
                refine ⟨rfl, K1.out, ?_⟩
                rw [HU1.out, HE.out]
                rfl
            · have z0 : ((z : Int) == 0) = false := by simp; omega
              have z1 : (z : Int) < 128 := by omega
              have HE : Hid (ung (mk + 1) j nn ((z : Int) :: bd.drop (k + j + 1)) = .good m2 (j + 1)) := Lib.hid (by rw [ung_good HQ.out.1 (by omega) g5, HQ.out.2, HM2.out])
              go_wp2_with (fail)
              refine HO.out.mono ?_
              rintro e w1 ⟨rfl, h1, k1⟩
              have K1 := Lib.hid (HC1.out.trans k1 fun _ _ h => h)
              have I1 := Lib.hid h1
              clear h1 k1
              go_wp2_with (fail)
              go_ret
              refine ⟨K1.out, ?_⟩
              rw [HU1.out, HE.out]
              exact ⟨⟨_, rfl, rfl⟩, I1.out⟩
          · have z0 : ((z : Int) == 0) = false := by simp; omega
            have z1 : ¬ (z : Int) < 128 := by omega
            have HE := Lib.hid (ung_next (k := mk) (i := j) (n := nn) (z := z) (r := bd.drop (k + j + 1)) HQ.out.1 g5)
            go_wp2_with (fail)
            refine HO.out.mono ?_
            rintro e w1 ⟨rfl, h1, k1⟩
            have K1 := Lib.hid (HC1.out.trans k1 fun _ _ h => h)
            have I1 := Lib.hid h1
            have U1 : Hid (ung most 0 0 (bd.drop k) = ung (most - (j + 1)) (j + 1) m2 (bd.drop (k + (j + 1))) ∧ m2 < 128 ^ (j + 1)) := Lib.hid ⟨by
              rw [HU1.out, HE.out, HQ.out.2, HM2.out, show most - (j + 1) = mk by have := HMK.out; omega]
              rfl, Q4.out⟩
            clear h1 k1 HE HU1 HQ HM2 Q4 HC1 HO HMK HN
            go_wp2_with (fail)
            go_roundw
            case rel => exact ⟨j + 1, m2, by go_num, rfl, by omega, I1, K1, U1⟩
            case measure => simp [intOf]; omega
      · have hkn : k + j = n := by have := hi.out.2.2.2.1; omega
        have hi' := hi.out
        rw [hkn] at hi'
        have HO := Lib.hid (one_no hi')
        obtain ⟨mk, hmk⟩ : ∃ mk, most - j = mk + 1 := ⟨most - j - 1, by omega⟩
        have HE : Hid (ung most 0 0 (bd.drop k) = .bad 4) := Lib.hid (by
          rw [hu.out.1, hmk, List.drop_of_length_le (by rw [hi'.2.2.1]; omega)]
          rfl)
        have HC1 := hc
        clear hi hi' hu hc hmk hkn
        go_wp2_with (fail)
        refine HO.out.mono ?_
        rintro e w1 ⟨rfl, k1⟩
        have K1 := Lib.hid (HC1.out.trans k1 fun _ _ h => h)
        clear k1
        simp only [pan]
        go_wp2_with (fail)
        refine ⟨rfl, K1.out, ?_⟩
        rw [HE.out]
        rfl
    · obtain rfl : j = most := by omega
      have HE : Hid (ung j 0 0 (bd.drop k) = .bad 6) := Lib.hid (by
        rw [hu.out.1, Nat.sub_self]
        rfl)
      have HC1 := hc
      clear hi hu hc
      go_wp2_with (fail)
      refine ⟨rfl, HC1.out, ?_⟩
      rw [HE.out]
      rfl
end Go.Proofs.Ytocdjieaphkbdaa
