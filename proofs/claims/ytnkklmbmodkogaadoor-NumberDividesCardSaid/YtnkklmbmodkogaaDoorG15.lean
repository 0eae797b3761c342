/- magnitude.divideLong: the numbers. magnitude.divideLong: the numbers of a round. magnitude.divideLong: the walk. magnitude.divide: every divisor that is not 0. magnitude.gcd. number.GCD. -/
import Derived.Test.YtnkklmbmodkogaaDoorG14
import Derived.Test.YtnkklmbmodkogaaDoorG4
import Derived.Test.YtnkklmbmodkogaaDoorG6
import Derived.Test.YtnkklmbmodkogaaDoorG8
import Derived.Test.YtnkklmbmodkogaaDoorG5
import Derived.Test.YtnkklmbmodkogaaDoorG7
/-! Dl1 -/
namespace Go.Proofs.YtnkklmbmodkogaaDoor
open Go.RowKit

/-- The estimate is not too small for the whole quotient. -/
theorem est_use {E V W N VV g : Nat} (hN : N = E / W) (hVV : VV = V / W) (hq : E / V < 18446744073709551616) (h : EstOk N VV g) : E / V ≤ g := by
  refine h _ hq ?_
  rw [hN, hVV]
  exact Nat.le_trans (Nat.mul_div_le_mul_div_assoc _ _ _) (Nat.div_le_div_right (Nat.div_mul_le_self E V))
theorem two_limbs {V m : Nat} (h : V < 18446744073709551616 ^ (m + 2)) : V / 18446744073709551616 ^ (m + 1) % 18446744073709551616 * 18446744073709551616 + V / 18446744073709551616 ^ m % 18446744073709551616 = V / 18446744073709551616 ^ m := by
  have e1 : V / 18446744073709551616 ^ (m + 1) = V / 18446744073709551616 ^ m / 18446744073709551616 := div_pow_succ V _ m
  have hlt : V / 18446744073709551616 ^ m < 18446744073709551616 * 18446744073709551616 := by
    rw [Nat.div_lt_iff_lt_mul (Nat.pow_pos (by omega)), Nat.mul_comm, ← Nat.mul_assoc, ← Nat.pow_succ, ← Nat.pow_succ]; exact h
  rw [e1]
  generalize V / 18446744073709551616 ^ m = x at *
  omega
theorem three_limbs {E m : Nat} (h : E < 18446744073709551616 ^ (m + 3)) : (E / 18446744073709551616 ^ (m + 2) % 18446744073709551616 * 18446744073709551616 + E / 18446744073709551616 ^ (m + 1) % 18446744073709551616) * 18446744073709551616 + E / 18446744073709551616 ^ m % 18446744073709551616 = E / 18446744073709551616 ^ m := by
  have e0 := two_limbs (V := E) (m := m + 1) h
  have e1 : E / 18446744073709551616 ^ (m + 1) = E / 18446744073709551616 ^ m / 18446744073709551616 := div_pow_succ E _ m
  rw [e0, e1, Nat.mul_comm]
  exact Nat.div_add_mod _ _
/-- The divisor shifted to its full length still fits. -/
theorem norm_lt {V0 t s n : Nat} (hs : s ≤ 63) (ht : t = V0 / 18446744073709551616 ^ n) (h : t * 2 ^ s < 18446744073709551616) : V0 * 2 ^ s < 18446744073709551616 ^ (n + 1) := by
  have e : (18446744073709551616 : Nat) = 2 ^ (64 - s) * 2 ^ s := by rw [← Nat.pow_add, show 64 - s + s = 64 by omega]
  have hp : 0 < 2 ^ s := Nat.pow_pos (by omega)
  have h1 : t + 1 ≤ 2 ^ (64 - s) := by
    rw [e] at h
    exact Nat.lt_of_mul_lt_mul_right h
  have h2 : V0 < (t + 1) * 18446744073709551616 ^ n := by
    rw [ht, Nat.mul_comm]; exact Nat.lt_mul_div_succ V0 (Nat.pow_pos (by omega))
  have h3 : V0 * 2 ^ s < (t + 1) * 18446744073709551616 ^ n * 2 ^ s := Nat.mul_lt_mul_of_pos_right h2 hp
  have h4 : (t + 1) * 18446744073709551616 ^ n * 2 ^ s ≤ 2 ^ (64 - s) * 18446744073709551616 ^ n * 2 ^ s := Nat.mul_le_mul_right _ (Nat.mul_le_mul_right _ h1)
  have h5 : 2 ^ (64 - s) * 18446744073709551616 ^ n * 2 ^ s = 18446744073709551616 ^ (n + 1) := by
    rw [Nat.pow_succ, Nat.mul_right_comm, ← e, Nat.mul_comm]
  omega
/-- The loop's relation. -/
def DlInv (D0 V Q D k : Nat) : Prop := D0 = Q * V + D ∧ D < V * 18446744073709551616 ^ k ∧ ∃ q, Q = q * 18446744073709551616 ^ k
theorem dl_start {U V0 s n : Nat} (hn : n ≤ 8) (hU : U < 18446744073709551616 ^ 8) (hV : 18446744073709551616 ^ n ≤ V0) : DlInv (U * 2 ^ s) (V0 * 2 ^ s) 0 (U * 2 ^ s) (8 - n) := by
  refine ⟨by simp, ?_, 0, by simp⟩
  have hp : 0 < 2 ^ s := Nat.pow_pos (by omega)
  have h1 : U < V0 * 18446744073709551616 ^ (8 - n) := by
    refine Nat.lt_of_lt_of_le hU ?_
    rw [show (18446744073709551616 : Nat) ^ 8 = 18446744073709551616 ^ n * 18446744073709551616 ^ (8 - n) by rw [← Nat.pow_add]; congr 1; omega]
    exact Nat.mul_le_mul_right _ hV
  rw [Nat.mul_right_comm]
  exact Nat.mul_lt_mul_of_pos_right h1 hp
theorem dl_step {D0 V Q D a : Nat} (h : DlInv D0 V Q D (a + 1)) :
    D / 18446744073709551616 ^ a / V < 18446744073709551616 ∧ D / 18446744073709551616 ^ a < V * 18446744073709551616 ∧
    DlInv D0 V (Q + D / 18446744073709551616 ^ a / V * 18446744073709551616 ^ a) (D - D / 18446744073709551616 ^ a / V * V * 18446744073709551616 ^ a) a ∧
    Q / 18446744073709551616 ^ a % 18446744073709551616 = 0 := by
  obtain ⟨h1, h2, q0, h3⟩ := h
  have hp : 0 < 18446744073709551616 ^ a := Nat.pow_pos (by omega)
  have hV : 0 < V := by
    rcases Nat.eq_zero_or_pos V with h0 | h0
    · subst h0; simp at h2
    · exact h0
  rw [Nat.pow_succ, ← Nat.mul_assoc] at h3
  have hE : D / 18446744073709551616 ^ a < V * 18446744073709551616 := by
    rw [Nat.div_lt_iff_lt_mul hp, Nat.mul_assoc, Nat.mul_comm 18446744073709551616, ← Nat.pow_succ]; exact h2
  have hmod := Nat.div_add_mod (D / 18446744073709551616 ^ a) V
  have hml := Nat.mod_lt (D / 18446744073709551616 ^ a) hV
  have hD := Nat.div_add_mod D (18446744073709551616 ^ a)
  have hDl := Nat.mod_lt D hp
  refine ⟨by rw [Nat.div_lt_iff_lt_mul hV, Nat.mul_comm]; exact hE, hE, ⟨?_, ?_, ?_⟩, ?_⟩
  all_goals generalize hM : (18446744073709551616 : Nat) ^ a = M at *
  all_goals generalize hEE : D / M = E at *
  · have hle : E / V * V * M ≤ D := by
      have h4 := Nat.mul_le_mul_right M (Nat.div_mul_le_self E V)
      have : E * M ≤ D := by rw [← hEE]; exact Nat.div_mul_le_self _ _
      omega
    rw [Nat.add_mul, Nat.mul_right_comm (E / V) M V]
    omega
  · have e1 : E / V * V * M + E % V * M = E * M := by rw [← Nat.add_mul, Nat.mul_comm (E / V), hmod]
    have e2 : E % V * M + M ≤ V * M := by
      have := Nat.mul_le_mul_right M (show E % V + 1 ≤ V from hml)
      rw [Nat.add_mul, Nat.one_mul] at this; exact this
    rw [Nat.mul_comm M E] at hD
    omega
  · exact ⟨q0 * 18446744073709551616 + E / V, by rw [h3, Nat.add_mul, Nat.mul_assoc q0 M, Nat.mul_comm M, ← Nat.mul_assoc]⟩
  · rw [h3, Nat.mul_right_comm, Nat.mul_div_cancel _ (by omega)]; omega
theorem dl_end {U V0 s Q D : Nat} (hV : 0 < V0) (h : DlInv (U * 2 ^ s) (V0 * 2 ^ s) Q D 0) : Q = U / V0 ∧ D / 2 ^ s = U % V0 := by
  obtain ⟨h1, h2, -⟩ := h
  rw [Nat.pow_zero, Nat.mul_one] at h2
  have hp : 0 < 2 ^ s := Nat.pow_pos (by omega)
  rw [← Nat.mul_assoc] at h1
  have hD : D = (U - Q * V0) * 2 ^ s := by rw [Nat.sub_mul]; omega
  have hle : Q * V0 ≤ U := Nat.le_of_mul_le_mul_right (show Q * V0 * 2 ^ s ≤ U * 2 ^ s by omega) hp
  have hlt : U - Q * V0 < V0 := by
    rw [hD] at h2; exact Nat.lt_of_mul_lt_mul_right h2
  have hU : U = (U - Q * V0) + V0 * Q := by rw [Nat.mul_comm V0]; omega
  constructor
  · have := Nat.add_mul_div_left (U - Q * V0) Q hV
    rw [← hU, Nat.div_eq_of_lt hlt] at this; omega
  · have := Nat.add_mul_mod_self_left (U - Q * V0) V0 Q
    rw [← hU, Nat.mod_eq_of_lt hlt] at this
    rw [hD, Nat.mul_div_cancel _ hp, this]
end Go.Proofs.YtnkklmbmodkogaaDoor

/-! Dl2 -/
namespace Go.Proofs.YtnkklmbmodkogaaDoor
open Go.RowKit

theorem dl_top {V : Nat} (hV : V < 18446744073709551616 ^ 8) (h : 18446744073709551616 ≤ V) : ∃ m t s : Nat, top (lm V) = m + 2 ∧ m ≤ 6 ∧ 18446744073709551616 ^ (m + 1) ≤ V ∧ V < 18446744073709551616 ^ (m + 2) ∧
    limb V (m + 1) = (t : Int) ∧ 0 < t ∧ t < 18446744073709551616 ∧ s ≤ 63 ∧ (64 - (Lib.bitLen t : Int)) = (s : Int) ∧ V * 2 ^ s < 18446744073709551616 ^ (m + 2) := by
  have h1 := top_large hV h
  have h2 : top (lm V) ≤ 8 := by have := top_le (lm V); simpa using this
  have h3 := top_lm_lt hV
  have h4 := top_ne (lm V) (by omega)
  obtain ⟨m, hm⟩ : ∃ m, top (lm V) = m + 2 := ⟨top (lm V) - 2, by omega⟩
  rw [hm] at h2 h3 h4
  rw [show m + 2 - 1 = m + 1 by omega, lm_get V (m + 1) (by omega)] at h4
  have hp : 0 < 18446744073709551616 ^ (m + 1) := Nat.pow_pos (by omega)
  have hlt : V / 18446744073709551616 ^ (m + 1) < 18446744073709551616 := by
    rw [Nat.div_lt_iff_lt_mul hp, Nat.mul_comm, ← Nat.pow_succ]; exact h3
  have hl : limb V (m + 1) = ((V / 18446744073709551616 ^ (m + 1) : Nat) : Int) := by
    show (((V / 18446744073709551616 ^ (m + 1) % 18446744073709551616 : Nat)) : Int) = _
    rw [Nat.mod_eq_of_lt hlt]
  have hpos : 0 < V / 18446744073709551616 ^ (m + 1) := by
    rw [hl] at h4
    rcases Nat.eq_zero_or_pos (V / 18446744073709551616 ^ (m + 1)) with h0 | h0
    · rw [h0] at h4; exact absurd rfl h4
    · exact h0
  obtain ⟨s, s1, s2, s3, s4⟩ := bit_range hpos hlt
  refine ⟨m, _, s, hm, by omega, ?_, h3, hl, hpos, hlt, s1, s2, norm_lt s1 rfl s4⟩
  have := (Nat.le_div_iff_mul_le hp).1 (show 1 ≤ V / 18446744073709551616 ^ (m + 1) from hpos)
  omega
theorem limbN_add (D a j : Nat) : limbN D (a + j) = D / 18446744073709551616 ^ a / 18446744073709551616 ^ j % 18446744073709551616 := by
  unfold limbN; rw [Nat.div_div_eq_div_mul, ← Nat.pow_add]
theorem dl_guess {V D0 Q D a m g : Nat} (hV : V < 18446744073709551616 ^ (m + 2)) (h : DlInv D0 V Q D (a + 1))
    (he : EstOk ((limbN D (a + (m + 2)) * 18446744073709551616 + limbN D (a + (m + 1))) * 18446744073709551616 + limbN D (a + m)) (limbN V (m + 1) * 18446744073709551616 + limbN V m) g) : D / 18446744073709551616 ^ a / V ≤ g := by
  obtain ⟨q1, q2, -, -⟩ := dl_step h
  have hE : D / 18446744073709551616 ^ a < 18446744073709551616 ^ (m + 3) := by
    refine Nat.lt_of_lt_of_le q2 ?_
    rw [Nat.pow_succ _ (m + 2)]
    exact Nat.mul_le_mul_right _ (Nat.le_of_lt hV)
  have e0 := three_limbs hE
  have e1 := two_limbs hV
  rw [← limbN_add, ← limbN_add, ← limbN_add] at e0
  exact est_use e0 e1 q1 he
theorem dl_top_pos {V m : Nat} (h1 : 18446744073709551616 ^ (m + 1) ≤ V) (h2 : V < 18446744073709551616 ^ (m + 2)) : 0 < limbN V (m + 1) := by
  have hp : 0 < 18446744073709551616 ^ (m + 1) := Nat.pow_pos (by omega)
  have hlt : V / 18446744073709551616 ^ (m + 1) < 18446744073709551616 := by
    rw [Nat.div_lt_iff_lt_mul hp, Nat.mul_comm, ← Nat.pow_succ]; exact h2
  unfold limbN
  rw [Nat.mod_eq_of_lt hlt]
  exact (Nat.le_div_iff_mul_le hp).2 (by omega)
theorem dl_less {V D0 Q D a m : Nat} (hV : V < 18446744073709551616 ^ (m + 2)) (h : DlInv D0 V Q D (a + 1)) : D / 18446744073709551616 ^ a < 18446744073709551616 ^ (m + 2 + 1) := by
  obtain ⟨-, q2, -, -⟩ := dl_step h
  refine Nat.lt_of_lt_of_le q2 ?_
  rw [Nat.pow_succ _ (m + 2)]
  exact Nat.mul_le_mul_right _ (Nat.le_of_lt hV)
/-- The quotient's next limb is stored. -/
theorem lm_put {Q a q : Nat} (h : Q / 18446744073709551616 ^ a % 18446744073709551616 = 0) (hq : q < 18446744073709551616) : (lm Q).set a (q : Int) = lm (Q + q * 18446744073709551616 ^ a) := by
  have e := lw_set Q 8 a q hq
  have e2 : holeW Q a = Q := by unfold holeW; rw [h]; omega
  rw [e2] at e
  exact e
/-- The dividend with its limb above. -/
theorem lw_nine (x : Nat) : lm x ++ [limb x 8] = lw x 9 := by
  rw [lw, List.range_succ, List.map_append]; rfl
theorem dl_hi {u s : Nat} (hu : u < 18446744073709551616 ^ 8) (hs : s ≤ 63) : u * 2 ^ s / 18446744073709551616 ^ 8 < 18446744073709551616 := by
  have hp : 0 < 2 ^ s := Nat.pow_pos (by omega)
  have h1 : 2 ^ s < 2 ^ 64 := Nat.pow_lt_pow_right (by omega) (by omega)
  rw [Nat.div_lt_iff_lt_mul (Nat.pow_pos (by omega)), Nat.mul_comm]
  have h2 : 2 ^ s * u < 2 ^ s * 18446744073709551616 ^ 8 := Nat.mul_lt_mul_of_pos_left hu hp
  exact Nat.lt_of_lt_of_le h2 (Nat.mul_le_mul_right _ (Nat.le_of_lt h1))
theorem limb_hi {X : Nat} (h : X / 18446744073709551616 ^ 8 < 18446744073709551616) : limb X 8 = ((X / 18446744073709551616 ^ 8 : Nat) : Int) := by
  show (((X / 18446744073709551616 ^ 8 % 18446744073709551616 : Nat)) : Int) = _
  rw [Nat.mod_eq_of_lt h]
theorem put_nine {X : Nat} (h : X / 18446744073709551616 ^ 8 < 18446744073709551616) : (lm X ++ [0]).set 8 ((X / 18446744073709551616 ^ 8 : Nat) : Int) = lw X 9 := by
  rw [← lw_nine, limb_hi h, List.set_append_right _ _ (by simp)]
  simp
end Go.Proofs.YtnkklmbmodkogaaDoor

/-! Dl3 -/
namespace Go.Proofs.YtnkklmbmodkogaaDoor
open Go.RowKit

theorem lz_any (t s : Nat) (w : World) (ht : t < 18446744073709551616) (h : (64 - (Lib.bitLen t : Int)) = (s : Int)) : Calls Tryd.prog 94 #[.int .u64 t] w fun e w' => e = .returned (.int .i64 (s : Int)) ∧ w = w' := by
  refine (Tryd.bits_LeadingZeros64 t w (by omega) (by omega)).mono ?_
  rintro e w' ⟨rfl, rfl⟩
  rw [← h]
  exact ⟨by simp, rfl⟩
set_option maxRecDepth 100000 in
set_option maxHeartbeats 2000000 in
theorem divLong_mag (u v : Nat) (w : World) (hu : u < 18446744073709551616 ^ 8) (hv : v < 18446744073709551616 ^ 8) (hv1 : 18446744073709551616 ≤ v) :
    Calls Tryd.prog 76 #[.agg (mag (lm u)), .agg (mag (lm v))] w fun e w' => e = .returned (.tuple #[.agg (mag (lm (u / v))), .agg (mag (lm (u % v)))]) ∧ Below w.heap.size w w' := by
  obtain ⟨m, t, s, T1, T2, T3, T4, T5, T6, T7, T8, T9, T10⟩ := dl_top hv hv1
  obtain ⟨x0, x1, x2, x3, hbW, hsz⟩ := boxes4 w 56 56 56 56 (mag (lm u)) (mag (lm v)) (mag [0, 0, 0, 0, 0, 0, 0, 0]) (mag [0, 0, 0, 0, 0, 0, 0, 0])
  have HZ := Lib.hid (fun w => lz_any t s w T7 T9)
  have HSV := Lib.hid (fun w => shl_mag v s w hv T8)
  have HSU := Lib.hid (fun w => shl_mag u s w hu T8)
  have HU := Lib.hid hu
  have HV := Lib.hid hv
  have HT3 := Lib.hid T3
  have HT10 := Lib.hid T10
  have hV0 : v * 2 ^ s / 18446744073709551616 ^ 8 = 0 := Nat.div_eq_of_lt (Nat.lt_of_lt_of_le T10 (Nat.pow_le_pow_right (by omega) (by omega)))
  have hu' := hu
  clear hu hv hv1 T3 T4 T10 T9
  obtain ⟨V, hVd⟩ : ∃ V, V = v * 2 ^ s := ⟨_, rfl⟩
  obtain ⟨X, hXd⟩ : ∃ X, X = u * 2 ^ s := ⟨_, rfl⟩
  rw [← hVd] at HSV HT10 hV0
  rw [hV0] at HSV
  rw [← hXd] at HSU
  have hHi := dl_hi hu' T8
  rw [← hXd] at hHi
  obtain ⟨H, hHd⟩ : ∃ H, H = X / 18446744073709551616 ^ 8 := ⟨_, rfl⟩
  rw [← hHd] at HSU hHi
  have HHI := Lib.hid hHi
  have HHD := Lib.hid hHd
  clear hHi hHd hu'
  have HVD := Lib.hid hVd
  have HXD := Lib.hid hXd
  clear hVd hXd hV0
  rw [zero8] at *
  go_enter Tryd.func76, Tryd.ntmps76
  go_wp2_with (first | (refine ldm rfl _ rfl _ rfl _ x1 (lm_len _) ?_))
  generalize (((w.alloc (.cells (mag (lm u)) 56)).alloc (.cells (mag (lm v)) 56)).alloc (.cells #[.int .u64 0, .int .u64 0, .int .u64 0, .int .u64 0, .int .u64 0, .int .u64 0, .int .u64 0, .int .u64 0] 56)).alloc (.cells #[.int .u64 0, .int .u64 0, .int .u64 0, .int .u64 0, .int .u64 0, .int .u64 0, .int .u64 0, .int .u64 0] 56) = W at *
  have hlt : w.heap.size + 3 < W.heap.size := by omega
  refine (length_any _ _ (lm_len _)).mono ?_
  rintro e w2 ⟨rfl, q2⟩
  rw [T1]
  obtain ⟨n, hn⟩ : ∃ n, n = m + 2 := ⟨_, rfl⟩
  obtain ⟨p1, hp1⟩ : ∃ p1, p1 = m + 1 := ⟨_, rfl⟩
  rw [← hn]
  have hl2 : w.heap.size + 3 < w2.heap.size := Nat.lt_of_lt_of_le hlt q2.size
  have y0 := Lib.hid (show Box w2 w.heap.size 56 (lm u) from x0.below q2 (by omega))
  have y1 := Lib.hid (show Box w2 (w.heap.size + 1) 56 (lm v) from x1.below q2 (by omega))
  have y2 := Lib.hid (show Box w2 (w.heap.size + 2) 56 [0, 0, 0, 0, 0, 0, 0, 0] from x2.below q2 (by omega))
  have y3 := Lib.hid (show Box w2 (w.heap.size + 3) 56 [0, 0, 0, 0, 0, 0, 0, 0] from x3.below q2 (by omega))
  have HB := Lib.hid (hbW.trans (q2.mono (by omega)))
  have c1 := y1.out.cell p1 (by simp; omega)
  rw [lm_get v p1 (by omega), hp1, T5, ← hp1] at c1
  have i1 : IntKind.i64.wrap ((n : Int) - 1) = (p1 : Int) := by rw [IntKind.wrap_i64]; omega
  have i2 : (p1 : Int) < 8 := by omega
  have HNM := Lib.hid hn
  have HP1 := Lib.hid hp1
  clear hn hp1
  clear x0 x1 x2 x3 q2 hbW hsz hlt
  go_wp2_with (fail)
  refine (HZ.out _).mono ?_
  rintro e w2' ⟨rfl, rfl⟩
  clear c1 HZ
  go_wp2_with (first | (refine ldm rfl _ rfl _ rfl _ y1.out (lm_len _) ?_))
  refine (HSV.out _).mono ?_
  rintro e w3 ⟨rfl, q3⟩
  have hl3 : w.heap.size + 3 < w3.heap.size := Nat.lt_of_lt_of_le hl2 q3.size
  have hz : Box (w3.alloc (.cells #[.int .u64 0, .int .u64 0, .int .u64 0, .int .u64 0, .int .u64 0, .int .u64 0, .int .u64 0, .int .u64 0] 56)) w3.heap.size 56 [0, 0, 0, 0, 0, 0, 0, 0] := heap_alloc_new w3 _
  have hal := below_alloc w3 (.cells #[.int .u64 0, .int .u64 0, .int .u64 0, .int .u64 0, .int .u64 0, .int .u64 0, .int .u64 0, .int .u64 0] 56)
  have q34 := q3.trans (hal.mono q3.size)
  have HA := Lib.hid hz
  have z0 := Lib.hid ((y0.out.below q34 (by omega)).setRow_other (g := w3.heap.size) (cs := mag (lm V)) (by omega))
  have z2 := Lib.hid ((y2.out.below q34 (by omega)).setRow_other (g := w3.heap.size) (cs := mag (lm V)) (by omega))
  have z3 := Lib.hid ((y3.out.below q34 (by omega)).setRow_other (g := w3.heap.size) (cs := mag (lm V)) (by omega))
  have z8 := Lib.hid (hz.setRow (ys := lm V))
  have HB3 := Lib.hid (below_setRow (g := w3.heap.size) (cs := mag (lm V)) (HB.out.trans (q34.mono (by omega))) (by omega))
  clear y0 y1 y2 y3 HB hz hal q34 q3 HSV
  go_wp2_with (first | (refine stm rfl _ _ rfl _ rfl _ _ rfl HA.out (lm_len _) rfl ?_) | (refine ldm rfl _ rfl _ rfl _ z0.out (lm_len _) ?_))
  clear HA
  have hsz : ((w3.alloc (.cells #[.int .u64 0, .int .u64 0, .int .u64 0, .int .u64 0, .int .u64 0, .int .u64 0, .int .u64 0, .int .u64 0] 56)).setRow w3.heap.size (mag (lm V))).heap.size = w3.heap.size + 1 := by rw [size_setRow]; simp
  generalize (w3.alloc (.cells #[.int .u64 0, .int .u64 0, .int .u64 0, .int .u64 0, .int .u64 0, .int .u64 0, .int .u64 0, .int .u64 0] 56)).setRow w3.heap.size (mag (lm V)) = Y at *
  generalize hb8 : w3.heap.size = b8 at *
  refine (HSU.out _).mono ?_
  rintro e w4 ⟨rfl, q4⟩
  have hl4 : b8 + 1 ≤ w4.heap.size := by have := q4.size; omega
  have hz : Box (w4.alloc (.cells #[.int .u64 0, .int .u64 0, .int .u64 0, .int .u64 0, .int .u64 0, .int .u64 0, .int .u64 0, .int .u64 0] 56)) w4.heap.size 56 [0, 0, 0, 0, 0, 0, 0, 0] := heap_alloc_new w4 _
  have hal := below_alloc w4 (.cells #[.int .u64 0, .int .u64 0, .int .u64 0, .int .u64 0, .int .u64 0, .int .u64 0, .int .u64 0, .int .u64 0] 56)
  have q45 := q4.trans (hal.mono q4.size)
  have HA := Lib.hid hz
  have v2 := Lib.hid ((z2.out.below q45 (by omega)).setRow_other (g := w4.heap.size) (cs := mag (lm X)) (by omega))
  have v3 := Lib.hid ((z3.out.below q45 (by omega)).setRow_other (g := w4.heap.size) (cs := mag (lm X)) (by omega))
  have v8 := Lib.hid ((z8.out.below q45 (by omega)).setRow_other (g := w4.heap.size) (cs := mag (lm X)) (by omega))
  have v10 := Lib.hid (hz.setRow (ys := lm X))
  have HB4 := Lib.hid (below_setRow (g := w4.heap.size) (cs := mag (lm X)) (HB3.out.trans (q45.mono (by omega))) (by omega))
  clear z0 z2 z3 z8 HB3 hz hal q45 q4 HSU
  go_wp2_with (first | (refine stm rfl _ _ rfl _ rfl _ _ rfl HA.out (lm_len _) rfl ?_))
  clear HA
  have hs5 : ((w4.alloc (.cells #[.int .u64 0, .int .u64 0, .int .u64 0, .int .u64 0, .int .u64 0, .int .u64 0, .int .u64 0, .int .u64 0] 56)).setRow w4.heap.size (mag (lm X))).heap.size = w4.heap.size + 1 := by rw [size_setRow]; simp
  generalize (w4.alloc (.cells #[.int .u64 0, .int .u64 0, .int .u64 0, .int .u64 0, .int .u64 0, .int .u64 0, .int .u64 0, .int .u64 0] 56)).setRow w4.heap.size (mag (lm X)) = Z at *
  generalize hb10 : w4.heap.size = b10 at *
  obtain ⟨b12, hb12⟩ : ∃ b12, b12 = b10 + 1 := ⟨_, rfl⟩
  rw [← hb12] at hs5 ⊢
  have hnew : Var (Z.alloc (.cells #[.int .u64 0, .int .u64 0, .int .u64 0, .int .u64 0, .int .u64 0, .int .u64 0, .int .u64 0, .int .u64 0, .int .u64 0] 113)) Z.heap.size 113 _ := Var.new Z 113 _
  rw [hs5] at hnew
  have u2 := Lib.hid (v2.out.alloc (.cells #[.int .u64 0, .int .u64 0, .int .u64 0, .int .u64 0, .int .u64 0, .int .u64 0, .int .u64 0, .int .u64 0, .int .u64 0] 113))
  have u3 := Lib.hid (v3.out.alloc (.cells #[.int .u64 0, .int .u64 0, .int .u64 0, .int .u64 0, .int .u64 0, .int .u64 0, .int .u64 0, .int .u64 0, .int .u64 0] 113))
  have u8 := Lib.hid (v8.out.alloc (.cells #[.int .u64 0, .int .u64 0, .int .u64 0, .int .u64 0, .int .u64 0, .int .u64 0, .int .u64 0, .int .u64 0, .int .u64 0] 113))
  have u10 := Lib.hid (v10.out.alloc (.cells #[.int .u64 0, .int .u64 0, .int .u64 0, .int .u64 0, .int .u64 0, .int .u64 0, .int .u64 0, .int .u64 0, .int .u64 0] 113))
  have HB5 := Lib.hid (bal HB4.out (.cells #[.int .u64 0, .int .u64 0, .int .u64 0, .int .u64 0, .int .u64 0, .int .u64 0, .int .u64 0, .int .u64 0, .int .u64 0] 113))
  have hs6 : (Z.alloc (.cells #[.int .u64 0, .int .u64 0, .int .u64 0, .int .u64 0, .int .u64 0, .int .u64 0, .int .u64 0, .int .u64 0, .int .u64 0] 113)).heap.size = b12 + 1 := by simp [hs5]
  generalize Z.alloc (.cells #[.int .u64 0, .int .u64 0, .int .u64 0, .int .u64 0, .int .u64 0, .int .u64 0, .int .u64 0, .int .u64 0, .int .u64 0] 113) = R at *
  clear v2 v3 v8 v10 HB4 hs5
  have HN := Lib.hid hnew
  have h10 : b10 < b12 := by omega
  clear hnew hb12 hb10
  have HPOS := Lib.hid (show some (⟨b12, 0, none⟩ : Addr) = some ⟨b12, 0, none⟩ ∧ ∃ ad, some (⟨b10, 0, none⟩ : Addr) = some ad ∧ ∀ j x, ((lm X).map (Value.int .u64))[j]? = some x → R.cell? (ad.add j) = some x from
    ⟨rfl, _, rfl, fun j x hj => by
      have hj8 : j < 8 := by have := (List.getElem?_eq_some_iff.1 hj).1; simpa using this
      have e : (⟨b10, 0, none⟩ : Addr).add j = ⟨b10, j, none⟩ := by unfold Addr.add; split <;> simp_all
      rw [e, u10.out.cell j (by simp; omega), lm_get _ _ (by omega)]
      simpa [lm, hj8] using hj⟩)
  have HONE := Lib.hid (show ∀ x ∈ (lm X).map (Value.int .u64), x.oneCell' = true from by intro x hx; simp only [List.mem_map] at hx; obtain ⟨y, _, rfl⟩ := hx; rfl)
  have HBL := Lib.hid ((Below.refl b12 R).drew)
  go_cut [36] (fun _ wx => Hid (Box wx b12 113 (lm X ++ [0])) ∧ Hid (Below b12 R wx))
  case first =>
    go_region_law (refine step_copy_splice rfl (.tmp 34) (.tmp 35) 92 92 rfl 54 Tryd.underlying92 (by kernel_rfl) (some ⟨b12, 0, none⟩) (some ⟨b10, 0, none⟩) 9 9 8 8 (by rfl) (by rfl) b12 0 (List.replicate 9 (.int .u64 0)) 113 (by exact HN.out) ((lm X).map (Value.int .u64)) (by simp) (fun _ => by exact HPOS.out) (by simp) HONE.out b12 R (by exact HBL.out) (Nat.le_refl _) ?_; intro w5 hg5 hb5)
    all_goals
      have hsp : Box w5 b12 113 (lm X ++ [0]) := by
        have h5 := hg5.out
        simp only [splice, List.take_zero, List.nil_append, Nat.zero_add, List.length_map, lm_len, List.drop_replicate] at h5
        have e0 : ((lm X).map (Value.int .u64) ++ List.replicate (9 - 8) (Value.int .u64 0)).toArray = mag (lm X ++ [0]) := by simp [mag]
        rw [e0] at h5
        exact h5
      go_wp2_with (fail)
      go_meet
      exact ⟨Lib.hid hsp, Lib.hid hb5⟩
  case rest =>
  obtain ⟨D1, D2⟩ := hcut
  clear HPOS HONE HBL HN u10
  have hb := D2.out
  have t2 := Lib.hid (u2.out.below hb (by omega))
  have t3 := Lib.hid (u3.out.below hb (by omega))
  have t8 := Lib.hid (u8.out.below hb (by omega))
  have HB6 := Lib.hid (HB5.out.trans (hb.mono (by omega)))
  have hX := D1.out.set_ 8 (H : Int)
  rw [HHD.out, put_nine (HHD.out ▸ HHI.out), ← HHD.out] at hX
  have D3 := Lib.hid hX
  have c8 := D1.out.cell 8 (by simp)
  have f8 := D1.out.free 8
  clear u2 u3 u8 HB5 hX hb D1
  have hn8 : n ≤ 8 := by have := HNM.out; omega
  have i0 : IntKind.i64.wrap (8 - (n : Int)) = ((8 - n : Nat) : Int) := by rw [IntKind.wrap_i64]; omega
  have DS := Lib.hid (show DlInv X V 0 X (8 - n + 1) by
    have := dl_start (U := u) (V0 := v) (s := s) (n := m + 1) (by omega) HU.out HT3.out
    rw [← HVD.out, ← HXD.out, show 8 - (m + 1) = 8 - n + 1 by have := HNM.out; omega] at this
    exact this)
  have t2f := Lib.hid (t2.out.far (p := ⟨b12, 8, none⟩) (by simp; omega) (.int .u64 (H : Int)))
  have t3f := Lib.hid (t3.out.far (p := ⟨b12, 8, none⟩) (by simp; omega) (.int .u64 (H : Int)))
  have t8f := Lib.hid (t8.out.far (p := ⟨b12, 8, none⟩) (by simp; omega) (.int .u64 (H : Int)))
  have HB7 := Lib.hid (HB6.out.setCell (p := ⟨b12, 8, none⟩) (by show w.heap.size ≤ b12; omega) (.int .u64 (H : Int)))
  clear t2 t3 t8 HB6
  go_wp2_with (fail)
  clear i0 c8 f8
  generalize wc.setCell ⟨b12, 8, none⟩ (.int .u64 (H : Int)) = WL at *
  go_loopw [13, 14] (fun a _ wr => ∃ k Q D : Nat, k ≤ 8 - n + 1 ∧ a = .int .i64 ((k : Int) - 1) ∧ Hid (DlInv X V Q D k) ∧ Hid (Box wr (w.heap.size + 2) 56 (lm Q)) ∧ Hid (Box wr (w.heap.size + 3) 56 [0, 0, 0, 0, 0, 0, 0, 0]) ∧ Hid (Box wr b8 56 (lm V)) ∧ Hid (Box wr b12 113 (lw D 9)) ∧ Hid (Below w.heap.size w wr)) (fun a _ _ => (intOf a + 1).toNat)
  case atStart => exact ⟨8 - n + 1, 0, X, Nat.le_refl _, by rw [show ((8 - n + 1 : Nat) : Int) - 1 = ((8 - n : Nat) : Int) by omega], DS, by rw [lm_zero]; exact t2f, t3f, t8f, D3, HB7⟩
  case round =>
    obtain ⟨k, Q, D, hk, rfl, hinv, b2, b3, bv, bd, hbl⟩ := hrel
    clear DS t2f t3f t8f D3 HB7
    rcases Nat.eq_zero_or_pos k with rfl | hk1
    · obtain ⟨E1, E2⟩ := dl_end (U := u) (V0 := v) (s := s) (Q := Q) (D := D) (by have := HT3.out; have : 0 < 18446744073709551616 ^ (m + 1) := Nat.pow_pos (by omega); omega) (by have := hinv.out; rw [HXD.out, HVD.out] at this; exact this)
      have hD8 : D < 18446744073709551616 ^ 8 := by
        have h1 := hinv.out.2.1
        rw [Nat.pow_zero, Nat.mul_one] at h1
        exact Nat.lt_of_lt_of_le (Nat.lt_trans h1 HT10.out) (Nat.pow_le_pow_right (by omega) (by omega))
      have HSH := Lib.hid (fun w => shr_mag D s w hD8 T8)
      rw [E2] at HSH
      have HQ := Lib.hid E1
      clear E1 E2 hD8 hinv
      go_wp2_with (fail)
      have HPOS := Lib.hid (show some (⟨w.heap.size + 1 + 1 + 1, 0, none⟩ : Addr) = some ⟨w.heap.size + 3, 0, none⟩ ∧ ∃ ad, some (⟨b12, 0, none⟩ : Addr) = some ad ∧ ∀ j x, ((lm D).map (Value.int .u64))[j]? = some x → wr.cell? (ad.add j) = some x from
        ⟨rfl, _, rfl, fun j x hj => by
          have hj8 : j < 8 := by have := (List.getElem?_eq_some_iff.1 hj).1; simpa using this
          have e : (⟨b12, 0, none⟩ : Addr).add j = ⟨b12, j, none⟩ := by unfold Addr.add; split <;> simp_all
          rw [e, bd.out.cell j (by simp; omega), lw_get _ _ _ (by omega)]
          simpa [lm, hj8] using hj⟩)
      have HONE := Lib.hid (show ∀ x ∈ (lm D).map (Value.int .u64), x.oneCell' = true from by intro x hx; simp only [List.mem_map] at hx; obtain ⟨y, _, rfl⟩ := hx; rfl)
      have HBL := Lib.hid ((Below.refl (w.heap.size + 3) wr).drew)
      go_cut [80] (fun _ wx => Hid (Box wx (w.heap.size + 3) 56 (lm D)) ∧ Hid (Below (w.heap.size + 3) wr wx))
      case first =>
        go_region_law (refine step_copy_splice rfl (.tmp 78) (.tmp 79) 92 92 rfl 54 Tryd.underlying92 (by kernel_rfl) (some ⟨w.heap.size + 1 + 1 + 1, 0, none⟩) (some ⟨b12, 0, none⟩) 8 8 8 9 (by rfl) (by rfl) (w.heap.size + 3) 0 (List.replicate 8 (.int .u64 0)) 56 (by exact b3.out) ((lm D).map (Value.int .u64)) (by simp) (fun _ => by exact HPOS.out) (by simp) HONE.out (w.heap.size + 3) wr (by exact HBL.out) (Nat.le_refl _) ?_; intro w5 hg5 hb5)
        all_goals
          have hsp : Box w5 (w.heap.size + 3) 56 (lm D) := by
            have h5 := hg5.out
            simp only [splice, List.take_zero, List.nil_append, Nat.zero_add, List.length_map, lm_len, List.drop_replicate, Nat.sub_self, List.replicate_zero, List.append_nil] at h5
            exact h5
          go_wp2_with (fail)
          go_meet
          exact ⟨Lib.hid hsp, Lib.hid hb5⟩
      case rest =>
      obtain ⟨N3, NB⟩ := hcut
      have N2 := Lib.hid (b2.out.below NB.out (by omega))
      have NW := Lib.hid (hbl.out.trans (NB.out.mono (by omega)))
      clear HPOS HONE HBL b2 b3 bv bd hbl NB
      go_wp2_with (fail)
      refine wp_region_any (by kernel_rfl) ?_
      refine wpAny_take (i := 2) (v := .int .i64 s) rfl (by kernel_rfl) (by kernel_rfl) (by kernel_rfl) (fun _ _ _ h => h) (Or.inl ⟨by rfl, ?_⟩) ?_
      · intro w; go_simp
      refine wpAny_ready (rs := [0, 1]) (by kernel_rfl) (by simp) ?_
      refine AllReady.cons rfl (fun K hK => ?_) (AllReady.cons rfl (fun K hK => ?_) AllReady.nil)
      · refine step_ldm rfl _ rfl _ rfl _ N2.out (lm_len _) ?_
        refine hK _ _ ?_; clear hK K
        refine wpAny_ready (rs := [1]) (by kernel_rfl) (by simp) ?_
        refine AllReady.cons rfl (fun K hK => ?_) AllReady.nil
        refine step_ldm rfl _ rfl _ rfl _ N3.out (lm_len _) ?_
        refine hK _ _ ?_; clear hK K
        refine wpAny_ready (rs := [3]) (by kernel_rfl) (by simp) ?_
        refine AllReady.cons rfl (fun K hK => ?_) AllReady.nil
        go_simp; go_at_call 98; refine (HSH.out _).mono ?_; rintro e w6 ⟨rfl, q6⟩
        refine hK _ _ ?_; clear hK K
        have M2 := Lib.hid (N2.out.below (by exact undrew q6) N2.out.lt)
        have M3 := Lib.hid (N3.out.below (by exact undrew q6) N3.out.lt)
        have MW := Lib.hid (NW.out.trans ((undrew q6).mono (show w.heap.size ≤ wc.heap.size by have := N3.out.lt; omega)))
        refine wpAny_ready (rs := [4]) (by kernel_rfl) (by simp) ?_
        refine AllReady.cons rfl (fun K hK => ?_) AllReady.nil
        refine step_stm rfl _ _ rfl _ rfl _ _ rfl M2.out (lm_len _) (lm_len _) ?_
        refine hK _ _ ?_; clear hK K
        refine wpAny_ready (rs := [5]) (by kernel_rfl) (by simp) ?_
        refine AllReady.cons rfl (fun K hK => ?_) AllReady.nil
        refine step_stm rfl _ _ rfl _ rfl _ _ rfl (M3.out.setRow_other (by omega)) (lm_len _) (lm_len _) ?_
        refine hK _ _ ?_; clear hK K
        refine wpAny_done (by kernel_rfl) ?_ _
        go_wp2_with (fail)
        refine bodyPost_ret (res_mag2 rfl _ _ (w.heap.size + 2) (w.heap.size + 3) (lm Q) (lm (u % v)) rfl rfl (M2.out.setRow.setRow_other (by omega)) (lm_len _) (M3.out.setRow_other (by omega)).setRow (lm_len _)) rfl ⟨by rw [HQ.out], ?_⟩
        exact below_setRow (below_setRow MW.out (by omega)) (by omega)
      · refine step_ldm rfl _ rfl _ rfl _ N3.out (lm_len _) ?_
        refine hK _ _ ?_; clear hK K
        refine wpAny_ready (rs := [0, 3]) (by kernel_rfl) (by simp) ?_
        refine AllReady.cons rfl (fun K hK => ?_) (AllReady.cons rfl (fun K hK => ?_) AllReady.nil)
        · refine step_ldm rfl _ rfl _ rfl _ N2.out (lm_len _) ?_
          refine hK _ _ ?_; clear hK K
          refine wpAny_ready (rs := [3]) (by kernel_rfl) (by simp) ?_
          refine AllReady.cons rfl (fun K hK => ?_) AllReady.nil
          go_simp; go_at_call 98; refine (HSH.out _).mono ?_; rintro e w6 ⟨rfl, q6⟩
          refine hK _ _ ?_; clear hK K
          have M2 := Lib.hid (N2.out.below (by exact undrew q6) N2.out.lt)
          have M3 := Lib.hid (N3.out.below (by exact undrew q6) N3.out.lt)
          have MW := Lib.hid (NW.out.trans ((undrew q6).mono (show w.heap.size ≤ wc.heap.size by have := N3.out.lt; omega)))
          refine wpAny_ready (rs := [4]) (by kernel_rfl) (by simp) ?_
          refine AllReady.cons rfl (fun K hK => ?_) AllReady.nil
          refine step_stm rfl _ _ rfl _ rfl _ _ rfl M2.out (lm_len _) (lm_len _) ?_
          refine hK _ _ ?_; clear hK K
          refine wpAny_ready (rs := [5]) (by kernel_rfl) (by simp) ?_
          refine AllReady.cons rfl (fun K hK => ?_) AllReady.nil
          refine step_stm rfl _ _ rfl _ rfl _ _ rfl (M3.out.setRow_other (by omega)) (lm_len _) (lm_len _) ?_
          refine hK _ _ ?_; clear hK K
          refine wpAny_done (by kernel_rfl) ?_ _
          go_wp2_with (fail)
          refine bodyPost_ret (res_mag2 rfl _ _ (w.heap.size + 2) (w.heap.size + 3) (lm Q) (lm (u % v)) rfl rfl (M2.out.setRow.setRow_other (by omega)) (lm_len _) (M3.out.setRow_other (by omega)).setRow (lm_len _)) rfl ⟨by rw [HQ.out], ?_⟩
          exact below_setRow (below_setRow MW.out (by omega)) (by omega)
        · go_simp; go_at_call 98; refine (HSH.out _).mono ?_; rintro e w6 ⟨rfl, q6⟩
          refine hK _ _ ?_; clear hK K
          have M2 := Lib.hid (N2.out.below (by exact undrew q6) N2.out.lt)
          have M3 := Lib.hid (N3.out.below (by exact undrew q6) N3.out.lt)
          have MW := Lib.hid (NW.out.trans ((undrew q6).mono (show w.heap.size ≤ wc.heap.size by have := N3.out.lt; omega)))
          refine wpAny_ready (rs := [0]) (by kernel_rfl) (by simp) ?_
          refine AllReady.cons rfl (fun K hK => ?_) AllReady.nil
          refine step_ldm rfl _ rfl _ rfl _ M2.out (lm_len _) ?_
          refine hK _ _ ?_; clear hK K
          refine wpAny_ready (rs := [4]) (by kernel_rfl) (by simp) ?_
          refine AllReady.cons rfl (fun K hK => ?_) AllReady.nil
          refine step_stm rfl _ _ rfl _ rfl _ _ rfl M2.out (lm_len _) (lm_len _) ?_
          refine hK _ _ ?_; clear hK K
          refine wpAny_ready (rs := [5]) (by kernel_rfl) (by simp) ?_
          refine AllReady.cons rfl (fun K hK => ?_) AllReady.nil
          refine step_stm rfl _ _ rfl _ rfl _ _ rfl (M3.out.setRow_other (by omega)) (lm_len _) (lm_len _) ?_
          refine hK _ _ ?_; clear hK K
          refine wpAny_done (by kernel_rfl) ?_ _
          go_wp2_with (fail)
          refine bodyPost_ret (res_mag2 rfl _ _ (w.heap.size + 2) (w.heap.size + 3) (lm Q) (lm (u % v)) rfl rfl (M2.out.setRow.setRow_other (by omega)) (lm_len _) (M3.out.setRow_other (by omega)).setRow (lm_len _)) rfl ⟨by rw [HQ.out], ?_⟩
          exact below_setRow (below_setRow MW.out (by omega)) (by omega)
    · obtain ⟨k, rfl⟩ : ∃ k0, k = k0 + 1 := ⟨k - 1, by omega⟩
      rw [show ((k + 1 : Nat) : Int) - 1 = (k : Int) by omega]
      obtain ⟨j2, hj2⟩ : ∃ j2, j2 = k + n := ⟨_, rfl⟩
      obtain ⟨j1, hj1⟩ : ∃ j1, j1 = k + p1 := ⟨_, rfl⟩
      obtain ⟨j0, hj0⟩ : ∃ j0, j0 = k + m := ⟨_, rfl⟩
      have hnm := HNM.out
      have hpm := HP1.out
      have hVn := HT10.out
      rw [← hnm] at hVn
      have hpow : 0 < 18446744073709551616 ^ k := Nat.pow_pos (by omega)
      obtain ⟨s1, s2, s3, s4⟩ := dl_step hinv.out
      have s5 : D / 18446744073709551616 ^ k < 18446744073709551616 ^ (n + 1) := by rw [hnm]; exact dl_less HT10.out hinv.out
      have s6 : 0 < V := by
        rcases Nat.eq_zero_or_pos V with h0 | h0
        · rw [h0] at s2; simp at s2
        · exact h0
      have s7 : 0 < limbN V p1 := by rw [hpm]; exact dl_top_pos (Nat.le_trans HT3.out (by rw [HVD.out]; exact Nat.le_mul_of_pos_right _ (Nat.pow_pos (by omega)))) HT10.out
      have HGU := Lib.hid (fun g => dl_guess (g := g) HT10.out hinv.out)
      rw [← hnm, ← hpm, ← hj2, ← hj1, ← hj0] at HGU
      have d2 := bd.out.cell j2 (by simp; omega)
      have d1 := bd.out.cell j1 (by simp; omega)
      have d0 := bd.out.cell j0 (by simp; omega)
      have e1 := bv.out.cell p1 (by simp; omega)
      have e0 := bv.out.cell m (by simp; omega)
      rw [lw_get _ _ _ (by omega), show limb D j2 = ((limbN D j2 : Nat) : Int) from rfl] at d2
      rw [lw_get _ _ _ (by omega), show limb D j1 = ((limbN D j1 : Nat) : Int) from rfl] at d1
      rw [lw_get _ _ _ (by omega), show limb D j0 = ((limbN D j0 : Nat) : Int) from rfl] at d0
      rw [lm_get _ _ (by omega), show limb V p1 = ((limbN V p1 : Nat) : Int) from rfl] at e1
      rw [lm_get _ _ (by omega), show limb V m = ((limbN V m : Nat) : Int) from rfl] at e0
      have l2 : limbN D j2 < 18446744073709551616 := Nat.mod_lt _ (by omega)
      have l1 : limbN D j1 < 18446744073709551616 := Nat.mod_lt _ (by omega)
      have l0 : limbN D j0 < 18446744073709551616 := Nat.mod_lt _ (by omega)
      have k1 : limbN V p1 < 18446744073709551616 := Nat.mod_lt _ (by omega)
      have k0 : limbN V m < 18446744073709551616 := Nat.mod_lt _ (by omega)
      generalize limbN D j2 = U2 at *
      generalize limbN D j1 = U1 at *
      generalize limbN D j0 = U0 at *
      generalize limbN V p1 = V1 at *
      generalize limbN V m = V0 at *
      have HEST := Lib.hid (fun w => est_any U2 U1 U0 V1 V0 w l1 l0 k1 k0 s7)
      have hlt9 : k + n < 9 := by omega
      have HRED := Lib.hid (fun (g : Nat) (wx : World) h1 h2 (h3 : g < 18446744073709551616) h4 => reduce_any b12 b8 D V k n g _ wx rfl h1 h2 (by omega) hlt9 s6 hVn s5 h3 h4)
      obtain ⟨q, hq⟩ : ∃ q, q = D / 18446744073709551616 ^ k / V := ⟨_, rfl⟩
      rw [← hq] at HRED HGU s1 s3
      obtain ⟨DD, hDD⟩ : ∃ DD, DD = D - q * V * 18446744073709551616 ^ k := ⟨_, rfl⟩
      rw [← hDD] at HRED s3
      have HINV := Lib.hid s3
      have HPUT := Lib.hid (lm_put s4 s1)
      generalize Q + q * 18446744073709551616 ^ k = QQ at *
      have kn : (k : Int) < 8 := by omega
      have a47 : IntKind.i64.wrap ((k : Int) + (n : Int)) = (j2 : Int) := by rw [IntKind.wrap_i64]; omega
      have a53 : IntKind.i64.wrap ((j2 : Int) - 1) = (j1 : Int) := by rw [IntKind.wrap_i64]; omega
      have a59 : IntKind.i64.wrap ((j2 : Int) - 2) = (j0 : Int) := by rw [IntKind.wrap_i64]; omega
      have a67 : IntKind.i64.wrap ((n : Int) - 2) = (m : Int) := by rw [IntKind.wrap_i64]; omega
      have b47 : (j2 : Int) < 9 := by omega
      have b53 : (j1 : Int) < 9 := by omega
      have b59 : (j0 : Int) < 9 := by omega
      have b67 : (m : Int) < 8 := by omega
      clear hq hDD s2 s3 s4 s5 s6 s7 l2 l1 l0 k1 k0 hinv hpow hVn hj2 hj1 hj0 hnm hpm s1
      go_wp2_with (fail)
      go_cut [14] from 41 to 77 (fun gu wx => ∃ g : Nat, gu = .int .u64 g ∧ Hid (g < 18446744073709551616) ∧ Hid (q ≤ g) ∧ Hid (Box wx (w.heap.size + 2) 56 (lm Q)) ∧ Hid (Box wx (w.heap.size + 3) 56 [0, 0, 0, 0, 0, 0, 0, 0]) ∧ Hid (Box wx b8 56 (lm V)) ∧ Hid (Box wx b12 113 (lw D 9)) ∧ Hid (Below w.heap.size w wx))
      case first =>
        go_region_held3 (fun w' => w'.cell? ⟨b12, j2, none⟩ = some (.int .u64 U2) ∧ w'.cell? ⟨b12, j1, none⟩ = some (.int .u64 U1) ∧ w'.cell? ⟨b12, j0, none⟩ = some (.int .u64 U0) ∧ w'.cell? ⟨b8, p1, none⟩ = some (.int .u64 V1) ∧ w'.cell? ⟨b8, m, none⟩ = some (.int .u64 V0)) (first | exact ⟨by assumption, by assumption, by assumption, by assumption, by assumption⟩ | go_keep)
          ((go_at_call 96; refine (HEST.out _).mono ?_; rintro e w1 ⟨⟨g, rfl, hg1, hg2⟩, kk, rfl⟩))
        all_goals
          go_wp2_with (fail)
          go_meet
          exact ⟨_, rfl, Lib.hid hg1, Lib.hid (HGU.out _ hg2), Lib.hid (by exact b2.out), Lib.hid (by exact b3.out), Lib.hid (by exact bv.out), Lib.hid (by exact bd.out), Lib.hid (by exact ⟨hbl.out.os, hbl.out.tape, hbl.out.output, hbl.out.size, hbl.out.block⟩)⟩
      case rest =>
      obtain ⟨g, rfl, HG1, HG2, B2, B3, BV, BD, HBW⟩ := hcut
      clear d2 d1 d0 e1 e0 a47 a53 a59 a67 b47 b53 b59 b67 b2 b3 bv bd hbl HEST HGU
      have gn : (n : Int) ≤ 8 := by omega
      have gn0 : ¬ (8 : Int) < (n : Int) := by omega
      have gn1 : ¬ 8 < n := by omega
      have gn2 : (0 : Int) ≤ (n : Int) := by omega
      go_wp2_with (fail)
      refine (HRED.out g _ BD.out BV.out HG1.out HG2.out).mono ?_
      rintro e w5 ⟨rfl, r1, r2, r3⟩
      have m2 := B2.out.below r2 (by omega)
      have m3 := B3.out.below r2 (by omega)
      have mv := BV.out.below r2 (by omega)
      have mb := HBW.out.trans (r2.mono (by omega))
      have c2 : w5.cell? ⟨w.heap.size + 1 + 1, k, none⟩ = _ := m2.cell k (by simp; omega)
      have f2 : w5.frozen? ⟨w.heap.size + 1 + 1, k, none⟩ = false := m2.free k
      have hX := m2.set_ k (q : Int)
      rw [HPUT.out] at hX
      have HX := Lib.hid hX
      have M3 := Lib.hid (m3.far (p := ⟨w.heap.size + 2, k, none⟩) (by simp) (.int .u64 (q : Int)))
      have MV := Lib.hid (mv.far (p := ⟨w.heap.size + 2, k, none⟩) (by simp; omega) (.int .u64 (q : Int)))
      have MD := Lib.hid (r1.far (p := ⟨w.heap.size + 2, k, none⟩) (by simp; omega) (.int .u64 (q : Int)))
      have MB := Lib.hid (mb.setCell (p := ⟨w.heap.size + 2, k, none⟩) (by show w.heap.size ≤ w.heap.size + 2; omega) (.int .u64 (q : Int)))
      clear r1 r2 r3 m2 m3 mv mb hX B2 B3 BV BD HBW HG1 HG2 HRED HPUT
      go_wp2
      go_roundw
      case rel => exact ⟨k, QQ, DD, by omega, by rfl, HINV, HX, M3, MV, MD, MB⟩
      case measure => simp [intOf]
end Go.Proofs.YtnkklmbmodkogaaDoor

/-! Dv3 -/
namespace Go.Proofs.YtnkklmbmodkogaaDoor
open Go.RowKit

set_option maxRecDepth 100000 in
set_option maxHeartbeats 1000000 in
theorem divide_long (u v : Nat) (w : World) (huv : v ≤ u) (hu : u < 18446744073709551616 ^ 8) (hv : v < 18446744073709551616 ^ 8) (hv1 : 18446744073709551616 ≤ v) :
    Calls Tryd.prog 56 #[.agg (mag (lm u)), .agg (mag (lm v))] w fun e w' => e = .returned (.tuple #[.agg (mag (lm (u / v))), .agg (mag (lm (u % v)))]) ∧ Below w.heap.size w w' := by
  obtain ⟨x0, x1, x2, x3, hbW, hsz⟩ := boxes4 w 56 56 56 56 (mag (lm u)) (mag (lm v)) (mag [0, 0, 0, 0, 0, 0, 0, 0]) (mag [0, 0, 0, 0, 0, 0, 0, 0])
  have HC := Lib.hid (fun w => compare_mag u v w hu hv)
  have HD := Lib.hid (fun w => divLong_mag u v w hu hv hv1)
  have htop := top_large hv hv1
  have hcmp : cmpN u v = 0 ∨ cmpN u v = 1 := by
    rcases Nat.lt_or_ge v u with h | h
    · exact .inr (cmpN_gt h)
    · exact .inl (cmpN_eq (by omega))
  have hc0 : 0 ≤ cmpN u v := by omega
  have hcd : decide (cmpN u v < 0) = false := by simp; omega
  obtain ⟨n, hn⟩ : ∃ n, n = top (lm v) := ⟨_, rfl⟩
  rw [← hn] at htop
  have hd1 : ((n : Int) == 1) = false := by simp; omega
  have hd3 : ¬ (n : Int) = 1 := by omega
  generalize cmpN u v = cc at *
  clear hu hv hv1 hcmp
  rw [zero8] at *
  go_enter Tryd.func56, Tryd.ntmps56
  go_wp2_with (first | (refine ldm rfl _ rfl _ rfl _ x0 (lm_len _) ?_) | (refine ldm rfl _ rfl _ rfl _ x1 (lm_len _) ?_))
  generalize (((w.alloc (.cells (mag (lm u)) 56)).alloc (.cells (mag (lm v)) 56)).alloc (.cells #[.int .u64 0, .int .u64 0, .int .u64 0, .int .u64 0, .int .u64 0, .int .u64 0, .int .u64 0, .int .u64 0] 56)).alloc (.cells #[.int .u64 0, .int .u64 0, .int .u64 0, .int .u64 0, .int .u64 0, .int .u64 0, .int .u64 0, .int .u64 0] 56) = W at *
  refine (HC.out _).mono ?_
  rintro e w1 ⟨rfl, q1⟩
  have hlt : w.heap.size + 3 < W.heap.size := by omega
  have y1 : Box w1 (w.heap.size + 1) 56 (lm v) := x1.below q1 (by omega)
  clear HC
  go_wp2_with (first | (refine ldm rfl _ rfl _ rfl _ y1 (lm_len _) ?_))
  refine (length_any _ _ (lm_len _)).mono ?_
  rintro e w2 ⟨rfl, q2⟩
  rw [← hn]
  have q12 := q1.trans (q2.mono q1.size)
  have hl2 : w.heap.size + 3 < w2.heap.size := Nat.lt_of_lt_of_le hlt q12.size
  have m0 := Lib.hid (show Box w2 w.heap.size 56 (lm u) from x0.below q12 (by omega))
  have m1 := Lib.hid (show Box w2 (w.heap.size + 1) 56 (lm v) from x1.below q12 (by omega))
  have z2 := Lib.hid (show Box w2 (w.heap.size + 2) 56 [0, 0, 0, 0, 0, 0, 0, 0] from x2.below q12 (by omega))
  have z3 := Lib.hid (show Box w2 (w.heap.size + 3) 56 [0, 0, 0, 0, 0, 0, 0, 0] from x3.below q12 (by omega))
  have HB := Lib.hid (hbW.trans (q12.mono (by omega)))
  clear y1 x0 x1 x2 x3 q1 q2 q12 hbW hsz hn
  go_wp2_with (first | (refine ldm rfl _ rfl _ rfl _ m0.out (lm_len _) ?_) | (refine ldm rfl _ rfl _ rfl _ m1.out (lm_len _) ?_))
  refine (HD.out _).mono ?_
  rintro e w3 ⟨rfl, q3⟩
  have B2 := Lib.hid (z2.out.below q3 (by omega))
  have B3 := Lib.hid (z3.out.below q3 (by omega))
  have HB4 := Lib.hid (HB.out.trans (q3.mono (by omega)))
  clear HB z2 z3 m0 m1 HD hcd hc0 q3
  generalize hqq : u / v = qq at *
  generalize hrr : u % v = rr at *
  go_wp2_with (first | (refine stm rfl _ _ rfl _ rfl _ _ rfl B2.out (lm_len _) rfl ?_) | (refine stm rfl _ _ rfl _ rfl _ _ rfl (B3.out.setRow_other (by omega)) (lm_len _) rfl ?_))
  refine bodyPost_ret (res_mag2 rfl _ _ (w.heap.size + 2) (w.heap.size + 3) (lm qq) (lm rr) rfl rfl (B2.out.setRow.setRow_other (by omega)) (lm_len _) (B3.out.setRow_other (by omega)).setRow (lm_len _)) rfl ⟨by rw [hqq, hrr], ?_⟩
  exact below_setRow (below_setRow HB4.out (by omega)) (by omega)

theorem divOK_all {u v : Nat} (hu : u < 18446744073709551616 ^ 8) (hv : v < 18446744073709551616 ^ 8) (hv0 : 0 < v) : DivOK u v := by
  rcases Nat.lt_or_ge v 18446744073709551616 with h | h
  · exact divOK_small hu hv0 h
  · intro w
    rcases Nat.lt_or_ge u v with h2 | h2
    · rw [Nat.div_eq_of_lt h2, Nat.mod_eq_of_lt h2]
      exact divide_less u v w h2 hu hv
    · exact divide_long u v w h2 hu hv h
end Go.Proofs.YtnkklmbmodkogaaDoor

/-! Gc1 -/
namespace Go.Proofs.YtnkklmbmodkogaaDoor
open Go.RowKit

/-- The number that a variable of a magnitude holds. -/
noncomputable def boxN (w : World) (b : Nat) : Nat := by
  classical
  exact if h : ∃ v, v < 18446744073709551616 ^ 8 ∧ Box w b 56 (lm v) then h.choose else 0
theorem box_inj {w : World} {b u v : Nat} (hu : u < 18446744073709551616 ^ 8) (hv : v < 18446744073709551616 ^ 8) (h : Box w b 56 (lm u)) (h' : Box w b 56 (lm v)) : u = v := by
  refine lm_inj hu hv fun k hk => ?_
  have c := h.cell k (by simpa using hk)
  have c' := h'.cell k (by simpa using hk)
  rw [c] at c'
  rw [lm_get _ _ hk, lm_get _ _ hk] at c'
  simpa using c'
theorem boxN_eq {w : World} {b v : Nat} (hv : v < 18446744073709551616 ^ 8) (h : Box w b 56 (lm v)) : boxN w b = v := by
  unfold boxN
  have h' : ∃ v, v < 18446744073709551616 ^ 8 ∧ Box w b 56 (lm v) := ⟨v, hv, h⟩
  rw [dif_pos h']
  exact box_inj h'.choose_spec.1 hv h'.choose_spec.2 h

def MagN (v : Nat) : Prop := v < 18446744073709551616 ^ 8
set_option maxRecDepth 100000 in
set_option maxHeartbeats 2000000 in
theorem gcd_mag (u v : Nat) (w : World) (hu : u < 18446744073709551616 ^ 8) (hv : v < 18446744073709551616 ^ 8) :
    Calls Tryd.prog 60 #[.agg (mag (lm u)), .agg (mag (lm v))] w fun e w' => e = .returned (.agg (mag (lm (Nat.gcd u v)))) ∧ Below w.heap.size w w' := by
  obtain ⟨x0, x1, x2, hbW, hsz⟩ := boxes3 w 56 56 56 (mag (lm u)) (mag (lm v)) (mag [0, 0, 0, 0, 0, 0, 0, 0])
  have HU := Lib.hid (show MagN u from hu)
  have HV := Lib.hid (show MagN v from hv)
  clear hu hv
  rw [zero8] at *
  go_enter Tryd.func60, Tryd.ntmps60
  go_wp2_with (fail)
  generalize ((w.alloc (.cells (mag (lm u)) 56)).alloc (.cells (mag (lm v)) 56)).alloc (.cells #[.int .u64 0, .int .u64 0, .int .u64 0, .int .u64 0, .int .u64 0, .int .u64 0, .int .u64 0, .int .u64 0] 56) = W at *
  have hlt : w.heap.size + 2 < W.heap.size := by omega
  have X0 := Lib.hid (show Box W w.heap.size 56 (lm u) from x0)
  have X1 := Lib.hid (show Box W (w.heap.size + 1) 56 (lm v) from x1)
  have X2 := Lib.hid (show Box W (w.heap.size + 2) 56 [0, 0, 0, 0, 0, 0, 0, 0] from x2)
  have HW := Lib.hid hbW
  clear x0 x1 x2 hbW hsz
  go_loopw [5, 6] (fun _ _ wr => ∃ a b : Nat, Hid (MagN a) ∧ Hid (MagN b) ∧ Hid (Nat.gcd a b = Nat.gcd u v) ∧ Hid (Box wr w.heap.size 56 (lm a)) ∧ Hid (Box wr (w.heap.size + 1) 56 (lm b)) ∧ Hid (Box wr (w.heap.size + 2) 56 [0, 0, 0, 0, 0, 0, 0, 0]) ∧ Hid (Below w.heap.size w wr) ∧ w.heap.size + 2 < wr.heap.size) (fun _ _ wr => boxN wr (w.heap.size + 1))
  case atStart => exact ⟨u, v, HU, HV, Lib.hid rfl, X0, X1, X2, HW, hlt⟩
  case round =>
    obtain ⟨a, b, ha, hb, hg, b0, b1, b2, hw, hl⟩ := hrel
    clear X0 X1 X2 HW hlt
    have hz := lm_isZero b hb.out
    have HZ := Lib.hid (fun w => isZero_any (lm b) w (lm_len _))
    rcases Nat.eq_zero_or_pos b with h0 | h0
    · rw [hz, show decide (b = 0) = true by simp [h0]] at HZ
      have HG := Lib.hid (show a = Nat.gcd u v by rw [← hg.out, h0, Nat.gcd_zero_right])
      clear hz h0
      go_wp2_with (first | (refine ldm rfl _ rfl _ rfl _ b1.out (lm_len _) ?_))
      refine (HZ.out _).mono ?_
      rintro e w2 ⟨rfl, q2⟩
      have c0 := Lib.hid (b0.out.below q2 (by omega))
      have c2 := Lib.hid (b2.out.below q2 (by omega))
      have cw := Lib.hid (hw.out.trans (q2.mono (by omega)))
      clear b0 b1 b2 hw q2
      go_wp2_with (first | (refine ldm rfl _ rfl _ rfl _ c0.out (lm_len _) ?_) | (refine stm rfl _ _ rfl _ rfl _ _ rfl c2.out (lm_len _) rfl ?_))
      refine bodyPost_ret (res_mag rfl _ _ (w.heap.size + 2) (lm a) rfl c2.out.setRow (lm_len _)) rfl ⟨by rw [HG.out], below_setRow cw.out (by omega)⟩
    · rw [hz, show decide (b = 0) = false by simp; omega] at HZ
      have HD := Lib.hid (divOK_all ha.out hb.out h0)
      have hml := Nat.mod_lt a h0
      have HG := Lib.hid (show Nat.gcd b (a % b) = Nat.gcd u v by rw [← hg.out, Nat.gcd_comm a b, Nat.gcd_rec b a, Nat.gcd_comm])
      have HML := Lib.hid hml
      have HRB := Lib.hid (show MagN (a % b) from Nat.lt_trans hml hb.out)
      have HBN := Lib.hid (boxN_eq hb.out b1.out)
      clear hz h0 hml
      go_wp2_with (first | (refine ldm rfl _ rfl _ rfl _ b1.out (lm_len _) ?_))
      refine (HZ.out _).mono ?_
      rintro e w2 ⟨rfl, q2⟩
      have c0 := Lib.hid (b0.out.below q2 (by omega))
      have c1 := Lib.hid (b1.out.below q2 (by omega))
      have c2 := Lib.hid (b2.out.below q2 (by omega))
      have cw := Lib.hid (hw.out.trans (q2.mono (by omega)))
      have hl2 : w.heap.size + 2 < w2.heap.size := Nat.lt_of_lt_of_le hl q2.size
      clear b0 b1 b2 hw q2 hl
      go_wp2_with (first | (refine ldm rfl _ rfl _ rfl _ c1.out (lm_len _) ?_) | (refine ldm rfl _ rfl _ rfl _ c0.out (lm_len _) ?_))
      refine (HD.out _).mono ?_
      rintro e w3 ⟨rfl, q3⟩
      have d0 := Lib.hid (c0.out.below q3 (by omega))
      have d1 := Lib.hid (c1.out.below q3 (by omega))
      have d2 := Lib.hid (c2.out.below q3 (by omega))
      have dw := Lib.hid (cw.out.trans (q3.mono (by omega)))
      have hl3 : w.heap.size + 2 < w3.heap.size := Nat.lt_of_lt_of_le hl2 q3.size
      clear c0 c1 c2 cw q3 hl2
      generalize hqq : a / b = qq at *
      generalize hrr : a % b = rr at *
      obtain ⟨k5, k6⟩ := znew2 w3
      have K5 := Lib.hid k5
      have K6 := Lib.hid (k6.setRow_other (g := w3.heap.size) (cs := mag (lm qq)) (by omega))
      clear k5 k6
      go_wp2_with (first | (refine stm rfl _ _ rfl _ rfl _ _ rfl K5.out (lm_len _) rfl ?_) | (refine stm rfl _ _ rfl _ rfl _ _ rfl K6.out (lm_len _) rfl ?_))
      have e0 := Lib.hid ((((d0.out.alloc zcells).alloc zcells).setRow_other (g := w3.heap.size) (cs := mag (lm qq)) (by omega)).setRow_other (g := w3.heap.size + 1) (cs := mag (lm rr)) (by omega))
      have e1 := Lib.hid ((((d1.out.alloc zcells).alloc zcells).setRow_other (g := w3.heap.size) (cs := mag (lm qq)) (by omega)).setRow_other (g := w3.heap.size + 1) (cs := mag (lm rr)) (by omega))
      have e2 := Lib.hid ((((d2.out.alloc zcells).alloc zcells).setRow_other (g := w3.heap.size) (cs := mag (lm qq)) (by omega)).setRow_other (g := w3.heap.size + 1) (cs := mag (lm rr)) (by omega))
      have e6 := Lib.hid (K6.out.setRow (ys := lm rr))
      have ew := Lib.hid (below_setRow (g := w3.heap.size + 1) (cs := mag (lm rr)) (below_setRow (g := w3.heap.size) (cs := mag (lm qq)) (bal (bal dw.out zcells) zcells) (by omega)) (by omega))
      generalize (((w3.alloc (.cells #[.int .u64 0, .int .u64 0, .int .u64 0, .int .u64 0, .int .u64 0, .int .u64 0, .int .u64 0, .int .u64 0] 56)).alloc (.cells #[.int .u64 0, .int .u64 0, .int .u64 0, .int .u64 0, .int .u64 0, .int .u64 0, .int .u64 0, .int .u64 0] 56)).setRow w3.heap.size (mag (lm qq))).setRow (w3.heap.size + 1) (mag (lm rr)) = Y at *
      have E6 := Lib.hid (show w.heap.size + 2 < w3.heap.size + 1 ∧ w3.heap.size + 1 < Y.heap.size from ⟨by omega, e6.out.lt⟩)
      generalize w3.heap.size + 1 = b6 at *
      clear d0 d1 d2 dw K5 K6 hl3
      obtain ⟨n6, l6⟩ := E6.out
      refine wp_region_any (by kernel_rfl) ?_
      refine wpAny_ready (rs := [0, 1]) (by kernel_rfl) (by simp) ?_
      refine AllReady.cons rfl (fun K hK => ?_) (AllReady.cons rfl (fun K hK => ?_) AllReady.nil)
      · refine step_ldm rfl _ rfl _ rfl _ e1.out (lm_len _) ?_
        refine hK _ _ ?_; clear hK K
        refine wpAny_ready (rs := [1, 2]) (by kernel_rfl) (by simp) ?_
        refine AllReady.cons rfl (fun K hK => ?_) (AllReady.cons rfl (fun K hK => ?_) AllReady.nil)
        · refine step_ldm rfl _ rfl _ rfl _ e6.out (lm_len _) ?_
          refine hK _ _ ?_; clear hK K
          refine wpAny_ready (rs := [2]) (by kernel_rfl) (by simp) ?_
          refine AllReady.cons rfl (fun K hK => ?_) AllReady.nil
          refine step_stm rfl _ _ rfl _ rfl _ _ rfl e0.out (lm_len _) (lm_len _) ?_
          refine hK _ _ ?_; clear hK K
          refine wpAny_ready (rs := [3]) (by kernel_rfl) (by simp) ?_
          refine AllReady.cons rfl (fun K hK => ?_) AllReady.nil
          refine step_stm rfl _ _ rfl _ rfl _ _ rfl (e1.out.setRow_other (by omega)) (lm_len _) (lm_len _) ?_
          refine hK _ _ ?_; clear hK K
          refine wpAny_done (by kernel_rfl) ?_ _
          simp only [List.getElem_toArray, List.getElem_cons_zero, List.getElem_cons_succ, Act.put, List.setIfInBounds_toArray, List.set_cons_zero, List.set_cons_succ]
          go_wp2_with (fail)
          go_roundw
          case rel => exact ⟨b, rr, hb, HRB, HG, Lib.hid (e0.out.setRow.setRow_other (by omega)), Lib.hid (Box.setRow (e1.out.setRow_other (by omega))), Lib.hid ((e2.out.setRow_other (by omega)).setRow_other (by omega)), Lib.hid (below_setRow (below_setRow ew.out.drew (by omega)) (by omega)), by rw [size_setRow, size_setRow]; exact Nat.lt_trans n6 l6⟩
          case measure =>
            have h1 := boxN_eq HRB.out (Box.setRow (ys := lm rr) (e1.out.setRow_other (g := w.heap.size) (cs := mag (lm b)) (by omega)))
            have h2 := HBN.out
            have h3 := HML.out
            show boxN ((Y.drew.setRow w.heap.size (mag (lm b))).setRow (w.heap.size + 1) (mag (lm rr))) (w.heap.size + 1) < boxN wr (w.heap.size + 1)
            have h4 : boxN ((Y.drew.setRow w.heap.size (mag (lm b))).setRow (w.heap.size + 1) (mag (lm rr))) (w.heap.size + 1) = rr := h1
            rw [h4, h2]; exact h3
        · refine step_stm rfl _ _ rfl _ rfl _ _ rfl e0.out (lm_len _) (lm_len _) ?_
          refine hK _ _ ?_; clear hK K
          refine wpAny_ready (rs := [1]) (by kernel_rfl) (by simp) ?_
          refine AllReady.cons rfl (fun K hK => ?_) AllReady.nil
          refine step_ldm rfl _ rfl _ rfl _ (e6.out.setRow_other (by omega)) (lm_len _) ?_
          refine hK _ _ ?_; clear hK K
          refine wpAny_ready (rs := [3]) (by kernel_rfl) (by simp) ?_
          refine AllReady.cons rfl (fun K hK => ?_) AllReady.nil
          refine step_stm rfl _ _ rfl _ rfl _ _ rfl (e1.out.setRow_other (by omega)) (lm_len _) (lm_len _) ?_
          refine hK _ _ ?_; clear hK K
          refine wpAny_done (by kernel_rfl) ?_ _
          simp only [List.getElem_toArray, List.getElem_cons_zero, List.getElem_cons_succ, Act.put, List.setIfInBounds_toArray, List.set_cons_zero, List.set_cons_succ]
          go_wp2_with (fail)
          go_roundw
          case rel => exact ⟨b, rr, hb, HRB, HG, Lib.hid (e0.out.setRow.setRow_other (by omega)), Lib.hid (Box.setRow (e1.out.setRow_other (by omega))), Lib.hid ((e2.out.setRow_other (by omega)).setRow_other (by omega)), Lib.hid (below_setRow (below_setRow ew.out.drew (by omega)) (by omega)), by rw [size_setRow, size_setRow]; exact Nat.lt_trans n6 l6⟩
          case measure =>
            have h1 := boxN_eq HRB.out (Box.setRow (ys := lm rr) (e1.out.setRow_other (g := w.heap.size) (cs := mag (lm b)) (by omega)))
            have h2 := HBN.out
            have h3 := HML.out
            show boxN ((Y.drew.setRow w.heap.size (mag (lm b))).setRow (w.heap.size + 1) (mag (lm rr))) (w.heap.size + 1) < boxN wr (w.heap.size + 1)
            have h4 : boxN ((Y.drew.setRow w.heap.size (mag (lm b))).setRow (w.heap.size + 1) (mag (lm rr))) (w.heap.size + 1) = rr := h1
            rw [h4, h2]; exact h3
      · refine step_ldm rfl _ rfl _ rfl _ e6.out (lm_len _) ?_
        refine hK _ _ ?_; clear hK K
        refine wpAny_ready (rs := [0]) (by kernel_rfl) (by simp) ?_
        refine AllReady.cons rfl (fun K hK => ?_) AllReady.nil
        refine step_ldm rfl _ rfl _ rfl _ e1.out (lm_len _) ?_
        refine hK _ _ ?_; clear hK K
        refine wpAny_ready (rs := [2]) (by kernel_rfl) (by simp) ?_
        refine AllReady.cons rfl (fun K hK => ?_) AllReady.nil
        refine step_stm rfl _ _ rfl _ rfl _ _ rfl e0.out (lm_len _) (lm_len _) ?_
        refine hK _ _ ?_; clear hK K
        refine wpAny_ready (rs := [3]) (by kernel_rfl) (by simp) ?_
        refine AllReady.cons rfl (fun K hK => ?_) AllReady.nil
        refine step_stm rfl _ _ rfl _ rfl _ _ rfl (e1.out.setRow_other (by omega)) (lm_len _) (lm_len _) ?_
        refine hK _ _ ?_; clear hK K
        refine wpAny_done (by kernel_rfl) ?_ _
        simp only [List.getElem_toArray, List.getElem_cons_zero, List.getElem_cons_succ, Act.put, List.setIfInBounds_toArray, List.set_cons_zero, List.set_cons_succ]
        go_wp2_with (fail)
        go_roundw
        case rel => exact ⟨b, rr, hb, HRB, HG, Lib.hid (e0.out.setRow.setRow_other (by omega)), Lib.hid (Box.setRow (e1.out.setRow_other (by omega))), Lib.hid ((e2.out.setRow_other (by omega)).setRow_other (by omega)), Lib.hid (below_setRow (below_setRow ew.out.drew (by omega)) (by omega)), by rw [size_setRow, size_setRow]; exact Nat.lt_trans n6 l6⟩
        case measure =>
          have h1 := boxN_eq HRB.out (Box.setRow (ys := lm rr) (e1.out.setRow_other (g := w.heap.size) (cs := mag (lm b)) (by omega)))
          have h2 := HBN.out
          have h3 := HML.out
          show boxN ((Y.drew.setRow w.heap.size (mag (lm b))).setRow (w.heap.size + 1) (mag (lm rr))) (w.heap.size + 1) < boxN wr (w.heap.size + 1)
          have h4 : boxN ((Y.drew.setRow w.heap.size (mag (lm b))).setRow (w.heap.size + 1) (mag (lm rr))) (w.heap.size + 1) = rr := h1
          rw [h4, h2]; exact h3
end Go.Proofs.YtnkklmbmodkogaaDoor

/-! Gc2 -/
namespace Go.Proofs.YtnkklmbmodkogaaDoor
open Go.RowKit

theorem gcd_lt {a b : Nat} (ha : a < 18446744073709551616 ^ 8) (hb : b < 18446744073709551616 ^ 8) : Nat.gcd a b < 18446744073709551616 ^ 8 := by
  rcases Nat.eq_zero_or_pos a with h | h
  · rw [h, Nat.gcd_zero_left]; exact hb
  · exact Nat.lt_of_le_of_lt (Nat.gcd_le_left b h) ha
set_option maxRecDepth 100000 in
set_option maxHeartbeats 2000000 in
theorem gcd_int (x y : Value) (a b : Int) (w : World) (hx : IntIs w w.heap.size x a) (hy : IntIs w w.heap.size y b) (ha : blen a.natAbs ≤ 64) (hb : blen b.natAbs ≤ 64) :
    Calls Tryd.prog 34 #[x, y] w (RetIntE w ((Nat.gcd a.natAbs b.natAbs : Nat) : Int) 0) := by
  obtain ⟨f, A, m, c, rfl, hx, hf, hn⟩ := hx.look
  obtain ⟨f', A', m', c', rfl, hy, hf', hn'⟩ := hy.look
  obtain ⟨v0, v1, v2, hbW, hsz⟩ := boxes3 w 24 24 24 #[.bool f, .slice A m c] #[.bool f', .slice A' m' c'] #[.bool false, .slice none 0 0]
  have HX := Lib.hid (hx.step hbW)
  have HY := Lib.hid (hy.step hbW)
  have HA := Lib.hid ha
  have HB := Lib.hid hb
  have HG := Lib.hid (gcd_lt (abs_lt ha) (abs_lt hb))
  have HM := Lib.hid (fun w => gcd_mag a.natAbs b.natAbs w (abs_lt ha) (abs_lt hb))
  have HS := Lib.hid (show sgn false (Nat.gcd a.natAbs b.natAbs) = ((Nat.gcd a.natAbs b.natAbs : Nat) : Int) from rfl)
  clear hx hy ha hb hf hf' hn hn'
  go_enter Tryd.func34, Tryd.ntmps34
  go_wp2_with (fail)
  generalize ((w.alloc (.cells #[.bool f, .slice A m c] 24)).alloc (.cells #[.bool f', .slice A' m' c'] 24)).alloc (.cells #[.bool false, .slice none 0 0] 24) = W at *
  have hlt : w.heap.size + 2 < W.heap.size := by omega
  refine (valid_int _ a W HX.out HA.out).mono ?_
  rintro e w1 ⟨rfl, q1⟩
  have HX1 := Lib.hid (HX.out.step q1)
  have HY1 := Lib.hid (HY.out.step q1)
  have r0 := (v1.below q1 (by omega)).cell 0
  have r1 := (v1.below q1 (by omega)).cell 1
  simp only [List.getElem?_toArray, List.getElem?_cons_succ, List.getElem?_cons_zero] at r0 r1
  go_wp2_with (fail)
  clear r0 r1
  refine (valid_int _ b w1 HY1.out HB.out).mono ?_
  rintro e w2 ⟨rfl, q2⟩
  have HX2 := Lib.hid (HX1.out.step q2)
  have HY2 := Lib.hid (HY1.out.step q2)
  have q12 := q1.trans (q2.mono q1.size)
  have s1 := (v0.below q12 (by omega)).cell 1
  have s2 := (v1.below q12 (by omega)).cell 1
  simp only [List.getElem?_toArray, List.getElem?_cons_succ, List.getElem?_cons_zero] at s1 s2
  have HV := Lib.hid (v2.below q12 (by omega))
  have HW := Lib.hid (hbW.trans (q12.mono (by omega)))
  clear HX1 HY1
  have hl2 : w.heap.size + 2 < w2.heap.size := Nat.lt_of_lt_of_le hlt q12.size
  have hl20 : w.heap.size < w2.heap.size := by omega
  have hl21 : w.heap.size + 1 < w2.heap.size := by omega
  clear v0 v1 v2 q1 q2 q12 hbW
  go_wp2_with (fail)
  generalize Nat.gcd a.natAbs b.natAbs = g at *
  have hn0 : w.heap.size ≠ w.heap.size + 1 + 1 := by omega
  have hn1 : w.heap.size + 1 ≠ w.heap.size + 1 + 1 := by omega
  go_region_held3 (fun w' => w'.cell? ⟨w.heap.size, 1, none⟩ = some (.slice A m c) ∧ w'.cell? ⟨w.heap.size + 1, 1, none⟩ = some (.slice A' m' c')) (first | exact ⟨by assumption, by assumption⟩ | exact ⟨(cell_far hn0 _).trans ((cell_far hn0 _).trans (by assumption)), (cell_far hn1 _).trans ((cell_far hn1 _).trans (by assumption))⟩ | go_keep)
    (first
      | (go_at_call_of 42 (Value.slice A' m' c'); refine (magOf_int (f := f') b _ ?_ HB.out).mono ?_; (exact HY2.out.step hb1); rintro e w4 ⟨rfl, hq⟩; have hb2 := bstep hb1 hq; have s12 := kept_cell hb2 s1 hl20; have s22 := kept_cell hb2 s2 hl21; clear hq)
      | (go_at_call 60; refine (HM.out _).mono ?_; rintro e w5 ⟨rfl, hq⟩; have hb3 := bstep hb2 hq; have s13 := kept_cell hb3 s1 hl20; have s23 := kept_cell hb3 s2 hl21; clear hq)
      | (go_at_call 44; refine (signed_any false g _ HG.out).mono ?_; rintro e w6 ⟨⟨x2, rfl, hi2⟩, hq2'⟩; rw [HS.out] at hi2; have hb4 := hb3.trans (hq2'.mono hb3.size); have s14 := kept_cell hb4 s1 hl20; have s24 := kept_cell hb4 s2 hl21; have hv2 := HV.out.below hb4 hl2; have s0 := hv2.cell 0; have s1' := hv2.cell 1; have t0 := hv2.free 0; have t1 := hv2.free 1; simp only [List.getElem?_toArray, List.getElem?_cons_succ, List.getElem?_cons_zero] at s0 s1'; obtain ⟨f2, A2, n2, c2, rfl, hi3, hf2, hn2⟩ := hi2.look; clear hf2 hn2)
      | (go_at_call_of 42 (Value.slice A m c); refine (magOf_int (f := f) a _ ?_ HA.out).mono ?_; (exact HX2.out); rintro e w3 ⟨rfl, hq⟩; have hb1 := bstep (below_drew0 w2) hq; have s11 := kept_cell hb1 s1 hl20; have s21 := kept_cell hb1 s2 hl21; clear hq))
  all_goals
    have HXX := Lib.hid (retIntE_store (er := 0) hi3 hv2 (HW.out.trans (hb4.mono (by omega))) (Nat.le_add_right _ _))
    clear hi2 hi3 hv2
    go_wp2_with (fail)
    exact bodyPost_ret (v := .tuple #[.agg #[.bool f2, .slice A2 n2 c2], .int .i64 0]) (by simp [results, Tryd.results34, go_sem, s0, s1']) rfl HXX.out
end Go.Proofs.YtnkklmbmodkogaaDoor
