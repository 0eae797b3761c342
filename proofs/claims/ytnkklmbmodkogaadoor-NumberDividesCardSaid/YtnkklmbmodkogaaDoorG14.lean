/- magnitude's estimate. magnitude.shiftLeft, shiftRight: the numbers. magnitude.shiftLeft. magnitude.shiftRight. dividend.reduce: the numbers. dividend.reduce: the walk. -/
import Derived.Test.YtnkklmbmodkogaaDoorG6
import Derived.Test.YtnkklmbmodkogaaDoorG1
import Derived.Test.YtnkklmbmodkogaaDoorG7
import Derived.Test.YtnkklmbmodkogaaDoorG4
import Derived.Deep.RegionLaw
/-! Es1 -/
namespace Go.Proofs.YtnkklmbmodkogaaDoor
open Go.RowKit

/-- g is not too small for any digit. -/
def EstOk (N V g : Nat) : Prop := ∀ q, q < 18446744073709551616 → q * V ≤ N → q ≤ g
theorem est_top (N V : Nat) : EstOk N V 18446744073709551615 := fun q h _ => by omega
theorem est_first {a u0 v1 v0 B : Nat} (hv : 0 < v1) (hu : u0 < B) (hB : B = 18446744073709551616) : EstOk (a * B + u0) (v1 * B + v0) (a / v1) := fun q _ h => by
  rw [Nat.le_div_iff_mul_le hv]
  have h1 : q * (v1 * B + v0) = (q * v1) * B + q * v0 := by rw [Nat.mul_add, Nat.mul_assoc]
  rw [h1] at h
  rcases Nat.lt_or_ge a (q * v1) with hl | hl
  · have := Nat.mul_le_mul_right B (show a + 1 ≤ q * v1 from hl)
    rw [Nat.add_mul] at this
    omega
  · exact hl
theorem est_less {a u0 v1 v0 g r B : Nat} (ha : a = g * v1 + r) (h : r * B + u0 < g * v0) (he : EstOk (a * B + u0) (v1 * B + v0) g) : EstOk (a * B + u0) (v1 * B + v0) (g - 1) ∧ 0 < g := by
  have h1 : a * B + u0 < g * (v1 * B + v0) := by
    rw [ha, Nat.mul_add, Nat.add_mul, Nat.mul_assoc]; omega
  refine ⟨fun q hq hle => ?_, ?_⟩
  · have h2 := he q hq hle
    rcases Nat.lt_or_ge q g with hl | hl
    · omega
    · obtain rfl : q = g := by omega
      omega
  · rcases Nat.eq_zero_or_pos g with h0 | h0
    · subst h0; simp at h
    · exact h0
theorem prod_hl (g v B : Nat) (hB : B = 18446744073709551616) : hi64 ((g : Int) * (v : Int)) = ((g * v / B : Nat) : Int) ∧ lo64 ((g : Int) * (v : Int)) = ((g * v % B : Nat) : Int) := by
  subst hB
  unfold hi64 lo64
  rw [← Int.natCast_mul]
  exact ⟨by rw [Int.natCast_ediv]; rfl, by rw [Int.natCast_emod]; rfl⟩
/-- What estimate answers. -/
def EstRet (u2 u1 u0 v1 v0 : Nat) (e : Ending) : Prop := ∃ g : Nat, e = .returned (.int .u64 g) ∧ g < 18446744073709551616 ∧ EstOk ((u2 * 18446744073709551616 + u1) * 18446744073709551616 + u0) (v1 * 18446744073709551616 + v0) g
theorem est_max (u2 u1 u0 v1 v0 : Nat) : EstRet u2 u1 u0 v1 v0 (.returned (.int .u64 18446744073709551615)) := ⟨18446744073709551615, rfl, by omega, est_top _ _⟩
/-- The loop's relation. -/
def EstInv (u2 u1 u0 v1 v0 g r : Nat) : Prop := g < 18446744073709551616 ∧ r < 18446744073709551616 ∧ u2 * 18446744073709551616 + u1 = g * v1 + r ∧ EstOk ((u2 * 18446744073709551616 + u1) * 18446744073709551616 + u0) (v1 * 18446744073709551616 + v0) g
theorem estInv_start {u2 u1 u0 v1 v0 : Nat} (h1 : u1 < 18446744073709551616) (h0 : u0 < 18446744073709551616) (k1 : v1 < 18446744073709551616) (hlt : u2 < v1) :
    EstInv u2 u1 u0 v1 v0 ((u2 * 18446744073709551616 + u1) / v1) ((u2 * 18446744073709551616 + u1) % v1) := by
  have hv : 0 < v1 := by omega
  refine ⟨?_, Nat.lt_trans (Nat.mod_lt _ hv) k1, by rw [Nat.mul_comm _ v1]; exact (Nat.div_add_mod _ _).symm, est_first hv h0 rfl⟩
  rw [Nat.div_lt_iff_lt_mul hv]
  have := Nat.mul_le_mul_right 18446744073709551616 (show u2 + 1 ≤ v1 from hlt)
  rw [Nat.mul_comm v1] at this
  omega
theorem estInv_ret {u2 u1 u0 v1 v0 g r : Nat} (h : EstInv u2 u1 u0 v1 v0 g r) : EstRet u2 u1 u0 v1 v0 (.returned (.int .u64 g)) := ⟨g, rfl, h.1, h.2.2.2⟩
theorem estInv_less {u2 u1 u0 v1 v0 g r H L : Nat} (h : EstInv u2 u1 u0 v1 v0 g r) (hH : H = g * v0 / 18446744073709551616) (hL : L = g * v0 % 18446744073709551616) (hc : ¬ (H < r ∨ H = r ∧ L ≤ u0)) (h0 : u0 < 18446744073709551616) :
    0 < g ∧ EstRet u2 u1 u0 v1 v0 (.returned (.int .u64 ((g - 1 : Nat) : Int))) ∧ (r + v1 < 18446744073709551616 → EstInv u2 u1 u0 v1 v0 (g - 1) (r + v1)) := by
  obtain ⟨h1, h2, h3, h4⟩ := h
  have hlt : r * 18446744073709551616 + u0 < g * v0 := by
    have := Nat.div_add_mod (g * v0) 18446744073709551616
    rw [← hH, ← hL] at this
    have hr : r ≤ H := by omega
    rcases Nat.lt_or_ge r H with hl | hl
    · omega
    · obtain rfl : r = H := by omega
      have : u0 < L := by omega
      omega
  have k := est_less h3 hlt h4
  refine ⟨k.2, ⟨g - 1, rfl, by omega, k.1⟩, fun hs => ⟨by omega, hs, ?_, k.1⟩⟩
  rw [h3]
  obtain ⟨g', rfl⟩ : ∃ g', g = g' + 1 := ⟨g - 1, by omega⟩
  rw [Nat.add_mul]; simp; omega
theorem sum_hl (r v : Nat) (hr : r < 18446744073709551616) (hv : v < 18446744073709551616) :
    (r + v < 18446744073709551616 → hi64 ((r : Int) + (v : Int)) = 0 ∧ lo64 ((r : Int) + (v : Int)) = ((r + v : Nat) : Int)) ∧ (¬ r + v < 18446744073709551616 → hi64 ((r : Int) + (v : Int)) = 1) := by
  unfold hi64 lo64; omega
theorem wordN {n : Nat} (h : n < 18446744073709551616) : Word (n : Int) := ⟨by omega, by omega⟩
set_option maxRecDepth 100000 in
set_option maxHeartbeats 2000000 in
theorem est_any (u2 u1 u0 v1 v0 : Nat) (w : World) (h1 : u1 < 18446744073709551616) (h0 : u0 < 18446744073709551616) (k1 : v1 < 18446744073709551616) (k0 : v0 < 18446744073709551616) (hv : 0 < v1) :
    Calls Tryd.prog 96 #[.int .u64 u2, .int .u64 u1, .int .u64 u0, .int .u64 v1, .int .u64 v0] w fun e w' => EstRet u2 u1 u0 v1 v0 e ∧ ∃ k, w' = w.drewN k := by
  have H1 := Lib.hid h1
  have H0 := Lib.hid h0
  have K1 := Lib.hid k1
  have K0 := Lib.hid k0
  clear h1 h0 k1 k0
  by_cases hge : v1 ≤ u2
  · have hT := Lib.hid (est_max u2 u1 u0 v1 v0)
    go_enter Tryd.func96, Tryd.ntmps96
    go_wp2_with (fail)
    go_ret
    exact ⟨hT.out, 0, rfl⟩
  · have hlt : u2 < v1 := by omega
    have HS := Lib.hid (estInv_start (u0 := u0) (v0 := v0) H1.out H0.out K1.out hlt)
    have HD := Lib.hid (fun w => div64 u2 u1 v1 w K1.out hlt H1.out)
    go_enter Tryd.func96, Tryd.ntmps96
    go_wp2_with (fail)
    refine (HD.out _).mono ?_
    rintro e w1 ⟨rfl, kk, rfl⟩
    clear HD
    generalize (u2 * 18446744073709551616 + u1) / v1 = G at *
    generalize (u2 * 18446744073709551616 + u1) % v1 = R at *
    go_wp2_with (fail)
    go_loopw [11, 12] (fun g r wr => ∃ g0 r0 : Nat, g = .int .u64 g0 ∧ r = .int .u64 r0 ∧ Hid (EstInv u2 u1 u0 v1 v0 g0 r0) ∧ ∃ k, wr = w.drewN k) (fun g _ _ => (intOf g).toNat)
    case atStart => exact ⟨G, R, rfl, rfl, HS, kk, rfl⟩
    case round =>
      obtain ⟨g, r, rfl, rfl, hinv, k2, rfl⟩ := hrel
      clear HS
      have hgw := wordN hinv.out.1
      have hrw := hinv.out.2.1
      have HM := Lib.hid (fun w => mul64 (g : Int) (v0 : Int) hgw (wordN K0.out) w)
      obtain ⟨e1, e2⟩ := prod_hl g v0 _ rfl
      rw [e1, e2] at HM
      have HAD := Lib.hid (fun W => add64_0 (r : Int) (v1 : Int) (by omega) (by omega) W)
      have HSU := Lib.hid (sum_hl r v1 hrw K1.out)
      have HL := Lib.hid (fun hc => estInv_less (H := g * v0 / 18446744073709551616) (L := g * v0 % 18446744073709551616) hinv.out rfl rfl hc H0.out)
      generalize g * v0 / 18446744073709551616 = H at *
      generalize g * v0 % 18446744073709551616 = L at *
      have HG := Lib.hid (estInv_ret hinv.out)
      clear hgw hrw e1 e2
      go_wp2_with (fail)
      refine (HM.out _).mono ?_
      rintro e w2 ⟨rfl, rfl⟩
      clear HM
      by_cases c1 : H < r
      · have c1' : (H : Int) < (r : Int) := by omega
        go_wp2_with (fail)
        go_ret
        exact ⟨HG.out, k2, rfl⟩
      · have c1' : (r : Int) ≤ (H : Int) := by omega
        have c1'' : decide ((H : Int) < (r : Int)) = false := by simp; omega
        by_cases c2 : H = r
        · subst c2
          by_cases c3 : L ≤ u0
          · have c3' : (L : Int) ≤ (u0 : Int) := by omega
            go_wp2_with (fail)
            go_ret
            exact ⟨HG.out, k2, rfl⟩
          · have c3' : decide ((L : Int) ≤ (u0 : Int)) = false := by simp; omega
            have HX := Lib.hid (HL.out (by omega))
            have hg0 := HX.out.1
            have hgw : IntKind.u64.wrap ((g : Int) - 1) = ((g - 1 : Nat) : Int) := by rw [IntKind.wrap_u64]; have := hinv.out.1; omega
            by_cases cs : H + v1 < 18446744073709551616
            · obtain ⟨s1, s2⟩ := HSU.out.1 cs
              have HA2 := HAD.out
              rw [s1, s2] at HA2
              have HI := Lib.hid (HX.out.2.2 cs)
              clear cs s1 s2 HSU HAD hinv
              go_wp2_with (simp only)
              refine ⟨⟨g - 1, H + v1, rfl, rfl, HI, k2, rfl⟩, ?_⟩
              show ((g - 1 : Nat) : Int).toNat < (g : Int).toNat
              omega
            · have s1 := HSU.out.2 cs
              have HA2 := HAD.out
              rw [s1] at HA2
              have HI := Lib.hid HX.out.2.1
              clear cs s1 HSU HAD hinv
              go_wp2_with (simp only)
              go_ret
              exact ⟨HI.out, k2, rfl⟩
        · have c2' : ((H : Int) == (r : Int)) = false := by simp; omega
          have HX := Lib.hid (HL.out (by omega))
          have hg0 := HX.out.1
          have hgw : IntKind.u64.wrap ((g : Int) - 1) = ((g - 1 : Nat) : Int) := by rw [IntKind.wrap_u64]; have := hinv.out.1; omega
          by_cases cs : r + v1 < 18446744073709551616
          · obtain ⟨s1, s2⟩ := HSU.out.1 cs
            have HA2 := HAD.out
            rw [s1, s2] at HA2
            have HI := Lib.hid (HX.out.2.2 cs)
            clear cs s1 s2 HSU HAD hinv
            go_wp2_with (simp only)
            refine ⟨⟨g - 1, r + v1, rfl, rfl, HI, k2, rfl⟩, ?_⟩
            show ((g - 1 : Nat) : Int).toNat < (g : Int).toNat
            omega
          · have s1 := HSU.out.2 cs
            have HA2 := HAD.out
            rw [s1] at HA2
            have HI := Lib.hid HX.out.2.1
            clear cs s1 HSU HAD hinv
            go_wp2_with (simp only)
            go_ret
            exact ⟨HI.out, k2, rfl⟩
end Go.Proofs.YtnkklmbmodkogaaDoor

/-! Sl1 -/
namespace Go.Proofs.YtnkklmbmodkogaaDoor
open Go.RowKit

/-- What is shifted out of the first k digits. -/
def carT (x T W k : Nat) : Nat := x % W ^ k * T / W ^ k
theorem carT_zero (x T W : Nat) : carT x T W 0 = 0 := by simp [carT, Nat.mod_one]
theorem carT_lt {x T W k : Nat} (hW : 0 < W) (hT : 0 < T) : carT x T W k < T := by
  unfold carT
  have hp : 0 < W ^ k := Nat.pow_pos hW
  rw [Nat.div_lt_iff_lt_mul hp, Nat.mul_comm T]
  exact Nat.mul_lt_mul_of_pos_right (Nat.mod_lt _ hp) hT
theorem carT_sum (x T W k : Nat) (hW : 0 < W) : x % W ^ (k + 1) * T / W ^ k = x / W ^ k % W * T + carT x T W k := by
  have hp : 0 < W ^ k := Nat.pow_pos hW
  rw [Nat.pow_succ, Nat.mod_mul, Nat.add_mul, Nat.mul_assoc, Nat.add_mul_div_left _ _ hp, Nat.add_comm]; rfl
theorem carT_hi (x T W k : Nat) (hW : 0 < W) : (x / W ^ k % W * T + carT x T W k) / W = carT x T W (k + 1) := by
  rw [← carT_sum x T W k hW, Nat.div_div_eq_div_mul, ← Nat.pow_succ]; rfl
theorem carT_lo (x T W k : Nat) (hW : 0 < W) : (x / W ^ k % W * T + carT x T W k) % W = x * T / W ^ k % W := by
  rw [← carT_sum x T W k hW]
  have hp : 0 < W ^ k := Nat.pow_pos hW
  have e : x * T = x % W ^ (k + 1) * T + W ^ k * (W * (x / W ^ (k + 1) * T)) := by
    have h := Nat.mod_add_div x (W ^ (k + 1))
    have h2 : W ^ k * (W * (x / W ^ (k + 1) * T)) = W ^ (k + 1) * (x / W ^ (k + 1)) * T := by rw [Nat.pow_succ]; simp only [Nat.mul_assoc]
    rw [h2, ← Nat.add_mul, h]
  rw [e, Nat.add_mul_div_left _ _ hp, Nat.add_mul_mod_self_left]
/-- A limb shifted by s, with s bits from below. -/
theorem shl_limb {y c s : Nat} (hs : s ≤ 63) (_hy : y < 18446744073709551616) (hc : c < 2 ^ s) :
    bits .or .u64 (IntKind.u64.wrap ((y : Int) * 2 ^ s)) (c : Int) = (((y * 2 ^ s + c) % 18446744073709551616 : Nat) : Int) ∧ (y : Int) / 2 ^ (64 - s) = (((y * 2 ^ s + c) / 18446744073709551616 : Nat) : Int) := by
  have e : (18446744073709551616 : Nat) = 2 ^ (64 - s) * 2 ^ s := by rw [← Nat.pow_add, show 64 - s + s = 64 by omega]
  have hp : 0 < 2 ^ s := Nat.pow_pos (by omega)
  have hp' : 0 < 2 ^ (64 - s) := Nat.pow_pos (by omega)
  have hcl : c < 18446744073709551616 := Nat.lt_of_lt_of_le hc (by rw [e]; exact Nat.le_mul_of_pos_left _ hp')
  have m1 : y * 2 ^ s % 18446744073709551616 = y % 2 ^ (64 - s) * 2 ^ s := by rw [e, Nat.mul_mod_mul_right]
  have d1 : y * 2 ^ s = 18446744073709551616 * (y / 2 ^ (64 - s)) + y % 2 ^ (64 - s) * 2 ^ s := by
    have h := Nat.div_add_mod y (2 ^ (64 - s))
    have h2 : 18446744073709551616 * (y / 2 ^ (64 - s)) = 2 ^ (64 - s) * (y / 2 ^ (64 - s)) * 2 ^ s := by rw [e, Nat.mul_assoc, Nat.mul_comm (2 ^ s), Nat.mul_assoc]
    rw [h2, ← Nat.add_mul, h]
  have lt1 : y % 2 ^ (64 - s) * 2 ^ s + c < 18446744073709551616 := by
    have h := Nat.mod_lt y hp'
    have h2 := Nat.mul_le_mul_right (2 ^ s) (show y % 2 ^ (64 - s) + 1 ≤ 2 ^ (64 - s) from h)
    rw [← e, Nat.add_mul] at h2
    omega
  constructor
  · have e1 : IntKind.u64.wrap ((y : Int) * 2 ^ s) = ((y % 2 ^ (64 - s) * 2 ^ s : Nat) : Int) := by
      rw [mul_pow_cast, IntKind.wrap_u64, ← m1, Int.natCast_emod]; rfl
    rw [e1, or_disj hc (by omega) hcl]
    congr 1
    rw [d1, Nat.add_assoc, Nat.mul_add_mod, Nat.mod_eq_of_lt lt1]
  · rw [div_pow_cast]
    congr 1
    rw [d1, Nat.add_assoc, Nat.mul_add_div (by omega), Nat.div_eq_of_lt lt1, Nat.add_zero]
def carB (x s k : Nat) : Nat := carT x (2 ^ s) 18446744073709551616 k
theorem shl_step (x s k : Nat) (hs : s ≤ 63) :
    bits .or .u64 (IntKind.u64.wrap (limb x k * 2 ^ s)) (carB x s k : Int) = limb (x * 2 ^ s) k ∧ limb x k / 2 ^ (64 - s) = (carB x s (k + 1) : Int) := by
  have h := shl_limb (y := x / 18446744073709551616 ^ k % 18446744073709551616) hs (Nat.mod_lt _ (by omega)) (carT_lt (x := x) (k := k) (W := 18446744073709551616) (by omega) (Nat.pow_pos (by omega) : 0 < 2 ^ s))
  rw [carT_lo _ _ _ _ (by omega), carT_hi _ _ _ _ (by omega)] at h
  exact h
theorem carB_end {x s : Nat} (hx : x < 18446744073709551616 ^ 8) : carB x s 8 = x * 2 ^ s / 18446744073709551616 ^ 8 := by
  unfold carB carT; rw [Nat.mod_eq_of_lt hx]
end Go.Proofs.YtnkklmbmodkogaaDoor

/-! Sl2 -/
namespace Go.Proofs.YtnkklmbmodkogaaDoor
open Go.RowKit

set_option maxRecDepth 100000 in
set_option maxHeartbeats 2000000 in
theorem shl_mag (x s : Nat) (w : World) (hx : x < 18446744073709551616 ^ 8) (hs : s ≤ 63) :
    Calls Tryd.prog 95 #[.agg (mag (lm x)), .int .i64 s] w fun e w' => e = .returned (.tuple #[.agg (mag (lm (x * 2 ^ s))), .int .u64 ((x * 2 ^ s / 18446744073709551616 ^ 8 : Nat) : Int)]) ∧ Below w.heap.size w w' := by
  obtain ⟨hv0, hv1, hbW, hsz⟩ := boxes2 w 56 56 (mag (lm x)) (mag [0, 0, 0, 0, 0, 0, 0, 0])
  have hb0 : Box _ _ _ (lm x) := hv0
  have HE := Lib.hid (carB_end (s := s) hx)
  have HI : Hid (∀ (j : Nat) (_ : j < 8) (W : World), (Instr.index 56 (.agg (mag (lm x))) (.int .i64 (j : Int))).run Tryd.prog W = .ok (.int .u64 (limb x j)) W) := Lib.hid (fun j h W => index_mag x j h W)
  clear hx hv0
  rw [zero8] at *
  go_enter Tryd.func95, Tryd.ntmps95
  go_wp2_with (refine ldm rfl _ rfl _ rfl _ hb0 (lm_len x) ?_)
  generalize (w.alloc (.cells (mag (lm x)) 56)).alloc (.cells #[.int .u64 0, .int .u64 0, .int .u64 0, .int .u64 0, .int .u64 0, .int .u64 0, .int .u64 0, .int .u64 0] 56) = W at *
  have HW := Lib.hid hbW
  have hlt : w.heap.size + 1 < W.heap.size := by omega
  go_loopw [6, 10] (fun o i wr => ∃ k : Nat, k ≤ 8 ∧ i = .int .i64 k ∧ o = .int .u64 (carB x s k : Nat) ∧ Box wr w.heap.size 56 (mixl (limb (x * 2 ^ s)) (limb x) k) ∧ Box wr (w.heap.size + 1) 56 [0, 0, 0, 0, 0, 0, 0, 0] ∧ Below w.heap.size W wr) (fun _ i _ => 8 - (intOf i).toNat)
  case atStart => exact ⟨0, by omega, rfl, by simp [carB, carT_zero], by rw [mixl_zero]; exact hb0, hv1, Below.refl _ _⟩
  case round =>
    obtain ⟨k, hk, rfl, rfl, hx, hz, hbl⟩ := hrel
    by_cases g1 : k < 8
    · have hix := HI.out k g1
      have z1 := hx.free k
      have c1 := hx.cell k (by simpa using g1)
      obtain ⟨l0, l1⟩ := limb_w x k
      obtain ⟨e1, e2⟩ := shl_step x s k hs
      have hX := hx.set_ k (limb (x * 2 ^ s) k)
      rw [mixl_set _ _ _ _ rfl] at hX
      have HX := Lib.hid hX
      have HZ := Lib.hid (hz.far (p := ⟨w.heap.size, k, none⟩) (by simp) (.int .u64 (limb (x * 2 ^ s) k)))
      have HB := Lib.hid (hbl.setCell (p := ⟨w.heap.size, k, none⟩) (Nat.le_refl _) (.int .u64 (limb (x * 2 ^ s) k)))
      have w1 : IntKind.i64.wrap (64 - (s : Int)) = ((64 - s : Nat) : Int) := by rw [IntKind.wrap_i64]; omega
      clear hx hz hbl hX hv1 hb0 hbW
      have gI : (k : Int) < 8 := by omega
      go_wp2
      go_region
      all_goals
        go_wp2
        go_roundw
        case rel => exact ⟨k + 1, by omega, by go_num, rfl, HX.out.drew, HZ.out.drew, HB.out.drew⟩
        case measure => simp [intOf]; omega
    · obtain rfl : k = 8 := by omega
      rw [mixl_all] at hx
      have HX := Lib.hid (show Box wr w.heap.size 56 (lm (x * 2 ^ s)) from hx)
      have HZ := Lib.hid hz
      have HB := Lib.hid (HW.out.trans hbl)
      have HB2 := Lib.hid (below_setRow (g := w.heap.size + 1) (cs := mag (lm (x * 2 ^ s))) HB.out (by omega))
      have he := HE.out
      rw [he]
      generalize hO : x * 2 ^ s / 18446744073709551616 ^ 8 = OUT
      have HO := Lib.hid hO
      clear hx hz hbl hv1 hb0 hbW he hO
      go_wp2_with (first | (refine ldm rfl _ rfl _ rfl _ HX.out (lm_len _) ?_) | (refine stm rfl _ _ rfl _ rfl _ _ rfl HZ.out (lm_len _) rfl ?_))
      exact bodyPost_ret (res_mag_tmp rfl _ _ (w.heap.size + 1) (lm (x * 2 ^ s)) (.int .u64 OUT) rfl rfl HZ.out.setRow (lm_len _)) rfl ⟨by rw [HO.out], HB2.out⟩
end Go.Proofs.YtnkklmbmodkogaaDoor

/-! Sr1 -/
namespace Go.Proofs.YtnkklmbmodkogaaDoor
open Go.RowKit

theorem shr_digit {X y z s : Nat} (hs : s ≤ 63) (hy : y = X % 18446744073709551616) (hz : z = X / 18446744073709551616 % 18446744073709551616) :
    X / 2 ^ s % 18446744073709551616 = y / 2 ^ s + z % 2 ^ s * 2 ^ (64 - s) ∧ y / 2 ^ s < 2 ^ (64 - s) ∧ z % 2 ^ s * 2 ^ (64 - s) < 18446744073709551616 := by
  have e : (18446744073709551616 : Nat) = 2 ^ s * 2 ^ (64 - s) := by rw [← Nat.pow_add, show s + (64 - s) = 64 by omega]
  have hp : 0 < 2 ^ s := Nat.pow_pos (by omega)
  have hp' : 0 < 2 ^ (64 - s) := Nat.pow_pos (by omega)
  have hyl : y < 18446744073709551616 := by rw [hy]; exact Nat.mod_lt _ (by omega)
  have hlt : y / 2 ^ s < 2 ^ (64 - s) := by rw [Nat.div_lt_iff_lt_mul hp, Nat.mul_comm, ← e]; exact hyl
  have hzl : z % 2 ^ s * 2 ^ (64 - s) < 18446744073709551616 := by
    rw [e]; exact Nat.mul_lt_mul_of_pos_right (Nat.mod_lt _ hp) hp'
  have hzm : z % 2 ^ s = X / 18446744073709551616 % 2 ^ s := by rw [hz, e, Nat.mod_mul_right_mod]
  refine ⟨?_, hlt, hzl⟩
  have hX : X = 2 ^ s * (2 ^ (64 - s) * (X / 18446744073709551616)) + y := by
    have := Nat.div_add_mod X 18446744073709551616
    rw [← hy, ] at this
    rw [← Nat.mul_assoc, ← e]; exact this.symm
  have h1 : X / 2 ^ s = 2 ^ (64 - s) * (X / 18446744073709551616) + y / 2 ^ s := by
    conv => lhs; rw [hX]
    rw [Nat.mul_add_div hp]
  rw [h1, hzm]
  generalize X / 18446744073709551616 = Z
  have h2 : 2 ^ (64 - s) * Z = 18446744073709551616 * (Z / 2 ^ s) + Z % 2 ^ s * 2 ^ (64 - s) := by
    have := Nat.div_add_mod Z (2 ^ s)
    conv => lhs; rw [← this]
    rw [Nat.mul_add, ← Nat.mul_assoc, Nat.mul_comm (2 ^ (64 - s)) (2 ^ s), ← e, Nat.mul_comm (2 ^ (64 - s))]
  have hlt2 : Z % 2 ^ s * 2 ^ (64 - s) + y / 2 ^ s < 18446744073709551616 := by
    have h3 := Nat.mul_le_mul_right (2 ^ (64 - s)) (show Z % 2 ^ s + 1 ≤ 2 ^ s from Nat.mod_lt _ hp)
    rw [← e, Nat.add_mul] at h3
    omega
  rw [h2, Nat.add_assoc, Nat.mul_add_mod, Nat.mod_eq_of_lt hlt2, Nat.add_comm]
/-- What comes in from above. -/
def inS (x s k : Nat) : Int := (((x / 18446744073709551616 ^ k % 18446744073709551616) % 2 ^ s * 2 ^ (64 - s) : Nat) : Int)
theorem shr_step (x s k : Nat) (hs : s ≤ 63) :
    bits .or .u64 (limb x k / 2 ^ s) (inS x s (k + 1)) = limb (x / 2 ^ s) k ∧ IntKind.u64.wrap (limb x k * 2 ^ (64 - s)) = inS x s k := by
  have ez : x / 18446744073709551616 ^ (k + 1) = x / 18446744073709551616 ^ k / 18446744073709551616 := div_pow_succ x _ k
  have h := shr_digit (X := x / 18446744073709551616 ^ k) hs rfl rfl
  constructor
  · unfold limb inS
    rw [div_pow_cast, ez, bits_or_u64_nat _ _ (Nat.lt_of_le_of_lt (Nat.div_le_self _ _) (Nat.mod_lt _ (by omega))) h.2.2]
    congr 1
    rw [Nat.div_div_eq_div_mul x (2 ^ s), Nat.mul_comm (2 ^ s), ← Nat.div_div_eq_div_mul, h.1, Nat.or_comm, Nat.mul_comm _ (2 ^ (64 - s)), ← Nat.two_pow_add_eq_or_of_lt h.2.1, Nat.add_comm]
  · unfold limb inS
    rw [mul_pow_cast, IntKind.wrap_u64]
    have e : (18446744073709551616 : Nat) = 2 ^ s * 2 ^ (64 - s) := by rw [← Nat.pow_add, show s + (64 - s) = 64 by omega]
    have m1 := Nat.mul_mod_mul_right (2 ^ (64 - s)) (x / 18446744073709551616 ^ k % 18446744073709551616) (2 ^ s)
    rw [← e] at m1
    rw [← m1, Int.natCast_emod]
    rfl
theorem inS_top {x s : Nat} (hx : x < 18446744073709551616 ^ 8) : inS x s 8 = 0 := by
  unfold inS; rw [Nat.div_eq_of_lt hx]; simp
theorem inS_w (x s k : Nat) (hs : s ≤ 63) : 0 ≤ inS x s k ∧ inS x s k < 18446744073709551616 := by
  have h := shr_step x s k hs
  rw [← h.2, IntKind.wrap_u64]; omega

set_option maxRecDepth 100000 in
set_option maxHeartbeats 2000000 in
theorem shr_mag (x s : Nat) (w : World) (hx : x < 18446744073709551616 ^ 8) (hs : s ≤ 63) :
    Calls Tryd.prog 98 #[.agg (mag (lm x)), .int .i64 s] w fun e w' => e = .returned (.agg (mag (lm (x / 2 ^ s)))) ∧ Below w.heap.size w w' := by
  obtain ⟨hv0, hv1, hbW, hsz⟩ := boxes2 w 56 56 (mag (lm x)) (mag [0, 0, 0, 0, 0, 0, 0, 0])
  have hb0 : Box _ _ _ (lm x) := hv0
  have HT := inS_top (s := s) hx
  clear hx hv0
  rw [zero8] at *
  go_enter Tryd.func98, Tryd.ntmps98
  go_wp2_with (fail)
  generalize (w.alloc (.cells (mag (lm x)) 56)).alloc (.cells #[.int .u64 0, .int .u64 0, .int .u64 0, .int .u64 0, .int .u64 0, .int .u64 0, .int .u64 0, .int .u64 0] 56) = W at *
  have HW := Lib.hid hbW
  have hlt : w.heap.size + 1 < W.heap.size := by omega
  go_loopw [5, 6] (fun o i wr => ∃ k : Nat, k ≤ 8 ∧ i = .int .i64 ((k : Int) - 1) ∧ o = .int .u64 (inS x s k) ∧ Box wr w.heap.size 56 (mixl (limb x) (limb (x / 2 ^ s)) k) ∧ Box wr (w.heap.size + 1) 56 [0, 0, 0, 0, 0, 0, 0, 0] ∧ Below w.heap.size W wr) (fun _ i _ => (intOf i + 1).toNat)
  case atStart => exact ⟨8, by omega, by rfl, by rw [HT], by rw [mixl_all]; exact hb0, hv1, Below.refl _ _⟩
  case round =>
    obtain ⟨k, hk, rfl, rfl, hx, hz, hbl⟩ := hrel
    rcases Nat.eq_zero_or_pos k with rfl | hk1
    · rw [mixl_zero] at hx
      have HX := Lib.hid (show Box wr w.heap.size 56 (lm (x / 2 ^ s)) from hx)
      have HZ := Lib.hid hz
      have HB := Lib.hid (HW.out.trans hbl)
      have HB2 := Lib.hid (below_setRow (g := w.heap.size + 1) (cs := mag (lm (x / 2 ^ s))) HB.out (by omega))
      clear hx hz hbl hv1 hb0 hbW
      go_wp2_with (first | (refine ldm rfl _ rfl _ rfl _ HX.out (lm_len _) ?_) | (refine stm rfl _ _ rfl _ rfl _ _ rfl HZ.out (lm_len _) rfl ?_))
      exact bodyPost_ret (res_mag rfl _ _ (w.heap.size + 1) (lm (x / 2 ^ s)) rfl HZ.out.setRow (lm_len _)) rfl ⟨rfl, HB2.out⟩
    · obtain ⟨k, rfl⟩ : ∃ k0, k = k0 + 1 := ⟨k - 1, by omega⟩
      have hkk : (((k + 1 : Nat) : Int) - 1) = (k : Int) := by omega
      rw [hkk]
      have g1 : k < 8 := by omega
      have z1 := hx.free k
      have c1 := hx.cell k (by simpa using g1)
      rw [mixl_get_lt _ _ _ _ g1 (by omega)] at c1
      obtain ⟨l0, l1⟩ := limb_w x k
      obtain ⟨i0, i1⟩ := inS_w x s (k + 1) hs
      obtain ⟨e1, e2⟩ := shr_step x s k hs
      have hX := hx.set_ k (limb (x / 2 ^ s) k)
      rw [mixl_down] at hX
      have HX := Lib.hid hX
      have HZ := Lib.hid (hz.far (p := ⟨w.heap.size, k, none⟩) (by simp) (.int .u64 (limb (x / 2 ^ s) k)))
      have HB := Lib.hid (hbl.setCell (p := ⟨w.heap.size, k, none⟩) (Nat.le_refl _) (.int .u64 (limb (x / 2 ^ s) k)))
      have w1 : IntKind.i64.wrap (64 - (s : Int)) = ((64 - s : Nat) : Int) := by rw [IntKind.wrap_i64]; omega
      clear hx hz hbl hX hv1 hb0 hbW
      have gI : (k : Int) < 8 := by omega
      go_wp2
      go_region
      all_goals
        go_wp2
        refine ⟨⟨k, by omega, rfl, rfl, HX.out.drew, HZ.out.drew, HB.out.drew⟩, ?_⟩
        show (((k : Int) - 1) + 1).toNat < ((k : Int) + 1).toNat
        omega
end Go.Proofs.YtnkklmbmodkogaaDoor

/-! Rm1 -/
namespace Go.Proofs.YtnkklmbmodkogaaDoor
open Go.RowKit

/-- Nine limbs: those of Z from a on, k of them; then those of Y up to a + n; else those of D. -/
def aG (D a n Y Z k j : Nat) : Int := if a ≤ j ∧ j < a + k then limb Z (j - a) else if a ≤ j ∧ j < a + n + 1 then limb Y (j - a) else limb D j
def aM (D a n Y Z k : Nat) : List Int := (List.range 9).map (aG D a n Y Z k)
def aR (D a n Y : Nat) : List Int := (List.range 9).map fun j => if a ≤ j ∧ j < a + n + 1 then limb Y (j - a) else limb D j
@[simp] theorem aM_len (D a n Y Z k : Nat) : (aM D a n Y Z k).length = 9 := by simp [aM]
@[simp] theorem aR_len (D a n Y : Nat) : (aR D a n Y).length = 9 := by simp [aR]
theorem aM_zero (D a n Y Z : Nat) : aM D a n Y Z 0 = aR D a n Y := by
  apply List.map_congr_left
  intro j _
  unfold aG
  rw [if_neg (by omega)]
theorem aM_all (D a n Y Z : Nat) : aM D a n Y Z (n + 1) = aR D a n Z := by
  apply List.map_congr_left
  intro j _
  unfold aG
  by_cases h : a ≤ j ∧ j < a + (n + 1)
  · rw [if_pos h, if_pos (show a ≤ j ∧ j < a + n + 1 by omega)]
  · have h' : ¬ (a ≤ j ∧ j < a + n + 1) := h
    simp only [if_neg h, if_neg h']
theorem aM_get (D a n Y Z k : Nat) (h : a + n < 9) (hk : k ≤ n) : (aM D a n Y Z k)[a + k]?.getD 0 = limb Y k := by
  have : a + k < 9 := by omega
  simp only [aM, List.getElem?_map, List.getElem?_range this, Option.map_some, Option.getD_some]
  unfold aG
  rw [if_neg (by omega), if_pos (by omega), Nat.add_sub_cancel_left]
theorem aM_set (D a n Y Z k : Nat) (_h : a + n < 9) (_hk : k ≤ n) : (aM D a n Y Z k).set (a + k) (limb Z k) = aM D a n Y Z (k + 1) := by
  apply List.ext_getElem
  · simp
  · intro j h1 h2
    simp only [List.length_set, aM_len] at h1
    rw [List.getElem_set]
    simp only [aM, List.getElem_map, List.getElem_range]
    by_cases e : a + k = j
    · subst e; rw [if_pos rfl]; unfold aG; rw [if_pos (by omega)]; congr 1; omega
    · rw [if_neg e]; unfold aG
      by_cases h3 : a ≤ j ∧ j < a + k
      · rw [if_pos h3, if_pos (by omega)]
      · rw [if_neg h3, if_neg (show ¬ (a ≤ j ∧ j < a + (k + 1)) by omega)]
theorem limb_shift (D a j : Nat) (h : a ≤ j) : limb (D / 18446744073709551616 ^ a) (j - a) = limb D j := by
  unfold limb
  rw [Nat.div_div_eq_div_mul, ← Nat.pow_add, show a + (j - a) = j by omega]
theorem aR_start (D a n : Nat) : aR D a n (D / 18446744073709551616 ^ a) = lw D 9 := by
  apply List.map_congr_left
  intro j _
  show (if a ≤ j ∧ j < a + n + 1 then limb (D / 18446744073709551616 ^ a) (j - a) else limb D j) = _
  split
  · exact limb_shift D a j (by omega)
  · rfl
theorem limb_modlt {Y m k : Nat} (h : k < m) : limb (Y % 18446744073709551616 ^ m) k = limb Y k := by
  unfold limb
  obtain ⟨d, rfl⟩ : ∃ d, m = k + 1 + d := ⟨m - k - 1, by omega⟩
  rw [show (18446744073709551616 : Nat) ^ (k + 1 + d) = 18446744073709551616 ^ k * (18446744073709551616 * 18446744073709551616 ^ d) by rw [Nat.pow_add, Nat.pow_succ, Nat.mul_assoc], Nat.mod_mul_right_div_self, Nat.mod_mul_right_mod]
theorem aR_mod (D a n Y : Nat) : aR D a n (Y % 18446744073709551616 ^ (n + 1)) = aR D a n Y := by
  apply List.map_congr_left
  intro j _
  show (if a ≤ j ∧ j < a + n + 1 then limb (Y % 18446744073709551616 ^ (n + 1)) (j - a) else limb D j) = (if a ≤ j ∧ j < a + n + 1 then limb Y (j - a) else limb D j)
  split
  · exact limb_modlt (by omega)
  · rfl
/-- The end: what is left. -/
theorem aR_end {D a n Y R : Nat} (hR : D = R + (D / 18446744073709551616 ^ a - Y) * 18446744073709551616 ^ a) (hY : Y ≤ D / 18446744073709551616 ^ a) (hD : D / 18446744073709551616 ^ a < 18446744073709551616 ^ (n + 1)) : aR D a n Y = lw R 9 := by
  have hp : 0 < 18446744073709551616 ^ a := Nat.pow_pos (by omega)
  have hRv : R = D % 18446744073709551616 ^ a + 18446744073709551616 ^ a * Y := by
    have h := Nat.mod_add_div D (18446744073709551616 ^ a)
    obtain ⟨d, hd⟩ : ∃ d, D / 18446744073709551616 ^ a = Y + d := ⟨_, (Nat.add_sub_cancel' hY).symm⟩
    rw [hd, Nat.mul_add] at h
    rw [hd, Nat.add_sub_cancel_left, Nat.mul_comm d] at hR
    omega
  have hY1 : R / 18446744073709551616 ^ a = Y := by
    rw [hRv, Nat.add_mul_div_left _ _ hp, Nat.div_eq_of_lt (Nat.mod_lt _ hp), Nat.zero_add]
  have hm : R % 18446744073709551616 ^ a = D % 18446744073709551616 ^ a := by
    rw [hRv, Nat.add_mul_mod_self_left, Nat.mod_mod]
  apply List.map_congr_left
  intro j _
  show (if a ≤ j ∧ j < a + n + 1 then limb Y (j - a) else limb D j) = limb R j
  by_cases h1 : a ≤ j
  · by_cases h2 : j < a + n + 1
    · rw [if_pos ⟨h1, h2⟩, ← hY1]; exact limb_shift R a j h1
    · rw [if_neg (by omega), ← limb_shift D a j h1, ← limb_shift R a j h1, hY1]
      have z : ∀ q, q < 18446744073709551616 ^ (n + 1) → limb q (j - a) = 0 := fun q hq => limb_zero _ _ (Nat.lt_of_lt_of_le hq (Nat.pow_le_pow_right (by omega) (by omega)))
      rw [z _ hD, z _ (Nat.lt_of_le_of_lt hY hD)]
  · rw [if_neg (by omega)]
    have h3 : j < a := by omega
    rw [← limb_modlt (Y := D) h3, ← limb_modlt (Y := R) h3, hm]
/-! The subtraction. -/
theorem red_mul (V g k : Nat) : lo64 (limb V k * (g : Int) + (carT V g 18446744073709551616 k : Int) + 0) = limb (V * g) k ∧ hi64 (limb V k * (g : Int) + (carT V g 18446744073709551616 k : Int) + 0) = (carT V g 18446744073709551616 (k + 1) : Int) := by
  have h1 := carT_lo V g 18446744073709551616 k (by omega)
  have h2 := carT_hi V g 18446744073709551616 k (by omega)
  have e : limb V k * (g : Int) + (carT V g 18446744073709551616 k : Int) + 0 = ((V / 18446744073709551616 ^ k % 18446744073709551616 * g + carT V g 18446744073709551616 k : Nat) : Int) := by
    unfold limb; rw [Int.add_zero, Int.natCast_add, Int.natCast_mul]
  rw [e]
  unfold lo64 hi64 limb
  constructor
  · rw [← h1, Int.natCast_emod]; rfl
  · rw [← h2, Int.natCast_ediv]; rfl
theorem red_top {V g n : Nat} (hV : V < 18446744073709551616 ^ n) (hg : g < 18446744073709551616) : (carT V g 18446744073709551616 n : Int) = limb (V * g) n := by
  unfold limb carT
  rw [Nat.mod_eq_of_lt hV]
  congr 1
  rw [Nat.mod_eq_of_lt]
  rw [Nat.div_lt_iff_lt_mul (Nat.pow_pos (by omega)), Nat.mul_comm 18446744073709551616]
  exact Nat.mul_lt_mul'' hV hg
theorem red_P {V g n : Nat} (hV : V < 18446744073709551616 ^ n) (hg : g < 18446744073709551616) : V * g < 18446744073709551616 ^ (n + 1) := by
  rw [Nat.pow_succ]; exact Nat.mul_lt_mul'' hV hg
theorem aR_more (D a n E : Nat) : aR D a n (E + 18446744073709551616 ^ (n + 1)) = aR D a n E := by
  rw [← aR_mod D a n (E + _), Nat.add_mod_right, aR_mod]
theorem red_bor {E P n : Nat} (hE : E < 18446744073709551616 ^ (n + 1)) (hP : P < 18446744073709551616 ^ (n + 1)) : bW (E + 18446744073709551616 ^ (n + 1)) P (n + 1) = if E < P then 1 else 0 := by
  unfold bW borN
  rw [Nat.add_mod_right, Nat.mod_eq_of_lt hE, Nat.mod_eq_of_lt hP]
  split <;> rfl
/-- The loop that adds back: its relation. -/
def RedInv (E V M g Y b : Nat) : Prop := Y < M ∧ g < 18446744073709551616 ∧ E / V ≤ g ∧ ((b = 1 ∧ Y + g * V = E + M ∧ E < g * V) ∨ (b = 0 ∧ Y + g * V = E))
theorem red_start {E V n g : Nat} (hE : E < 18446744073709551616 ^ (n + 1)) (hP : V * g < 18446744073709551616 ^ (n + 1)) (hg : g < 18446744073709551616) (hq : E / V ≤ g) :
    RedInv E V (18446744073709551616 ^ (n + 1)) g ((E + 18446744073709551616 ^ (n + 1) - V * g) % 18446744073709551616 ^ (n + 1)) (if E < V * g then 1 else 0) := by
  generalize (18446744073709551616 : Nat) ^ (n + 1) = M at *
  have hM : 0 < M := by omega
  refine ⟨Nat.mod_lt _ hM, hg, hq, ?_⟩
  rw [Nat.mul_comm g V]
  by_cases h : E < V * g
  · rw [if_pos h]
    exact .inl ⟨rfl, by rw [Nat.mod_eq_of_lt (by omega)]; omega, h⟩
  · rw [if_neg h]
    refine .inr ⟨rfl, ?_⟩
    rw [show E + M - V * g = (E - V * g) + M by omega, Nat.add_mod_right, Nat.mod_eq_of_lt (by omega)]
    omega
theorem red_round {E V n g Y : Nat} (hV0 : 0 < V) (hV : V < 18446744073709551616 ^ n) (h : RedInv E V (18446744073709551616 ^ (n + 1)) g Y 1) :
    0 < g ∧ RedInv E V (18446744073709551616 ^ (n + 1)) (g - 1) ((Y + V) % 18446744073709551616 ^ (n + 1)) (1 - (Y + V) / 18446744073709551616 ^ (n + 1)) ∧ (Y + V) / 18446744073709551616 ^ (n + 1) ≤ 1 := by
  obtain ⟨h1, h2, h3, h4⟩ := h
  have hVM : V < 18446744073709551616 ^ (n + 1) := Nat.lt_of_lt_of_le hV (Nat.pow_le_pow_right (by omega) (by omega))
  generalize (18446744073709551616 : Nat) ^ (n + 1) = M at *
  rcases h4 with ⟨_, h5, h6⟩ | ⟨h5, _⟩
  · have hg : 0 < g := by
      rcases Nat.eq_zero_or_pos g with h0 | h0
      · subst h0; simp at h6
      · exact h0
    obtain ⟨g', rfl⟩ : ∃ g', g = g' + 1 := ⟨g - 1, by omega⟩
    rw [Nat.add_mul, Nat.one_mul] at h5 h6
    have hq : E / V ≤ g' := by
      have : E / V < g' + 1 := by rw [Nat.div_lt_iff_lt_mul hV0, Nat.add_mul, Nat.one_mul]; exact h6
      omega
    rw [Nat.add_sub_cancel]
    have hM : 0 < M := by omega
    by_cases hc : Y + V < M
    · rw [Nat.mod_eq_of_lt hc, Nat.div_eq_of_lt hc]
      exact ⟨hg, ⟨hc, by omega, hq, .inl ⟨rfl, by omega, by omega⟩⟩, by omega⟩
    · have e1 : (Y + V) / M = 1 := by
        rw [show Y + V = (Y + V - M) + M by omega, Nat.add_div_right _ hM, Nat.div_eq_of_lt (by omega)]
      have e2 : (Y + V) % M = Y + V - M := by
        rw [show Y + V = (Y + V - M) + M by omega, Nat.add_mod_right, Nat.mod_eq_of_lt (by omega)]; omega
      rw [e1, e2]
      exact ⟨hg, ⟨by omega, by omega, hq, .inr ⟨rfl, by omega⟩⟩, by omega⟩
  · omega
theorem red_car {Y V n : Nat} (hY : Y < 18446744073709551616 ^ (n + 1)) (hV : V < 18446744073709551616 ^ n) : carW Y V (n + 1) = (((Y + V) / 18446744073709551616 ^ (n + 1) : Nat) : Int) := by
  have hVM : V < 18446744073709551616 ^ (n + 1) := Nat.lt_of_lt_of_le hV (Nat.pow_le_pow_right (by omega) (by omega))
  unfold carW
  rw [Nat.mod_eq_of_lt hY, Nat.mod_eq_of_lt hVM]
theorem red_end {D E V n a g Y : Nat} (hV0 : 0 < V) (hE : E = D / 18446744073709551616 ^ a) (hEM : E < 18446744073709551616 ^ (n + 1)) (h : RedInv E V (18446744073709551616 ^ (n + 1)) g Y 0) :
    g = E / V ∧ aR D a n Y = lw (D - E / V * V * 18446744073709551616 ^ a) 9 := by
  obtain ⟨h1, h2, h3, h4⟩ := h
  rcases h4 with ⟨h5, _⟩ | ⟨_, h5⟩
  · omega
  · have hg : g = E / V := by
      have : g ≤ E / V := by rw [Nat.le_div_iff_mul_le hV0]; omega
      omega
    refine ⟨hg, aR_end (R := D - E / V * V * 18446744073709551616 ^ a) ?_ (by rw [← hE]; omega) (by rw [← hE]; exact hEM)⟩
    have e : D / 18446744073709551616 ^ a - Y = E / V * V := by rw [← hE, ← hg]; omega
    rw [e]
    have h6 : E / V * V ≤ E := by rw [← hg]; omega
    have h7 := Nat.mul_le_mul_right (18446744073709551616 ^ a) h6
    have h8 : E * 18446744073709551616 ^ a ≤ D := by rw [hE]; exact Nat.div_mul_le_self _ _
    omega
end Go.Proofs.YtnkklmbmodkogaaDoor

/-! Rm2 -/
namespace Go.Proofs.YtnkklmbmodkogaaDoor
open Go.RowKit

/-- Only block G changes. -/
def Far (G : Nat) (w w' : World) : Prop := ∀ i, i ≠ G → w'.heap[i]? = w.heap[i]?
theorem Far.refl (G : Nat) (w : World) : Far G w w := fun _ _ => rfl
theorem Far.set {G : Nat} {w w' : World} (h : Far G w w') (k : Nat) (v : Value) : Far G w (w'.setCell ⟨G, k, none⟩ v) := fun i hi => (Below.heap_setCell w' _ v i hi).trans (h i hi)
theorem Far.drew {G : Nat} {w w' : World} (h : Far G w w') : Far G w w'.drew := h
theorem Far.box {G b : Nat} {T : TypeId} {xs : List Int} {w w' : World} (h : Far G w w') (hb : Box w b T xs) (hne : b ≠ G) : Box w' b T xs := (h b hne).trans hb

theorem wrap_1m {q : Nat} (h : q ≤ 1) : IntKind.u64.wrap (1 - (q : Int)) = ((1 - q : Nat) : Int) := by rw [IntKind.wrap_u64]; omega
theorem carT_w {V g : Nat} (k : Nat) (hg : (g : Int) < 18446744073709551616) : Word (carT V g 18446744073709551616 k : Int) := by
  rcases Nat.eq_zero_or_pos g with h0 | h0
  · subst h0; exact ⟨by omega, by simp [carT]⟩
  · have := carT_lt (x := V) (T := g) (W := 18446744073709551616) (k := k) (by omega) h0
    exact ⟨by omega, by omega⟩
set_option maxRecDepth 100000 in
set_option maxHeartbeats 2000000 in
theorem reduce_any (G bV D V a n g E : Nat) (w : World) (hE : E = D / 18446744073709551616 ^ a) (hD : Box w G 113 (lw D 9)) (hV : Box w bV 56 (lm V)) (hne : bV ≠ G) (hn : a + n < 9) (hV0 : 0 < V) (hVn : V < 18446744073709551616 ^ n) (hEM : E < 18446744073709551616 ^ (n + 1)) (hg : g < 18446744073709551616) (hq : E / V ≤ g) :
    Calls Tryd.prog 97 #[.pointer (some ⟨G, 0, none⟩), .slice (some ⟨bV, 0, none⟩) n 8, .int .i64 a, .int .u64 g] w fun e w' => e = .returned (.int .u64 ((E / V : Nat) : Int)) ∧ Box w' G 113 (lw (D - E / V * V * 18446744073709551616 ^ a) 9) ∧ Below G w w' ∧ Far G w w' := by
  have hn8 : n ≤ 8 := by omega
  have HST := Lib.hid (red_start hEM (red_P hVn hg) hg hq)
  have HPM := Lib.hid (red_P hVn hg)
  have HTOP := Lib.hid (red_top (V := V) hVn hg)
  have HBOR := Lib.hid (red_bor hEM (red_P hVn hg))
  have HEM := Lib.hid hEM
  have HVN := Lib.hid hVn
  have HEE := Lib.hid hE
  have hgw := wordN hg
  obtain ⟨gw0, gw1⟩ := hgw
  rw [← aR_start D a n, ← hE, ← aR_more] at hD
  have hvu : V * g ≤ E + 18446744073709551616 ^ (n + 1) := by have := HPM.out; omega
  have HVU := Lib.hid hvu
  clear hEM hVn hE hq hvu hg
  generalize hF : E + 18446744073709551616 ^ (n + 1) = F at *
  have HF := Lib.hid hF
  clear hF
  go_enter Tryd.func97, Tryd.ntmps97
  go_wp2_with (fail)
  go_loopw [9, 10, 19] (fun c bo i wr => ∃ k : Nat, k ≤ n ∧ i = .int .i64 k ∧ c = .int .u64 (carT V g 18446744073709551616 k : Nat) ∧ bo = .int .u64 (bW F (V * g) k) ∧ Box wr G 113 (aM D a n F (F - V * g) k) ∧ Below G w wr ∧ Far G w wr) (fun _ _ i _ => n - (intOf i).toNat)
  case atStart => exact ⟨0, by omega, rfl, by rw [carT_zero]; rfl, by rw [bW_zero], by rw [aM_zero]; exact hD, Below.refl _ _, Far.refl _ _⟩
  case round =>
    obtain ⟨k, hk, rfl, rfl, rfl, hx, hbl, hfar⟩ := hrel
    by_cases g1 : k < n
    · have hy := hfar.box hV hne
      have c2 := hy.cell k (by simp; omega)
      rw [lm_get V k (by omega)] at c2
      have c1 := hx.cell (a + k) (by simp; omega)
      rw [aM_get _ _ _ _ _ _ hn (by omega)] at c1
      have z1 := hx.free (a + k)
      obtain ⟨l0, l1⟩ := limb_w F k
      obtain ⟨m0, m1⟩ := limb_w V k
      obtain ⟨p0, p1⟩ := limb_w (V * g) k
      obtain ⟨n0, n1⟩ := bW_b F (V * g) k
      obtain ⟨r1, r2⟩ := red_mul V g k
      obtain ⟨e1, e2⟩ := sub_limb F (V * g) k HVU.out
      have HMA := Lib.hid (fun w => mulAdd_any (limb V k) (g : Int) (carT V g 18446744073709551616 k : Int) 0 w (limb_w V k) ⟨gw0, gw1⟩ (carT_w k gw1) ⟨by omega, by omega⟩)
      rw [r1, r2] at HMA
      have hsub : ∀ W : World, (callFunc 78 #[.int .u64 (limb F k), .int .u64 (limb (V * g) k), .int .u64 (bW F (V * g) k)]).run Tryd.prog W = .ok (.value (.tuple #[.int .u64 (limb (F - V * g) k), .int .u64 (bW F (V * g) (k + 1))])) W := fun W => by
        rw [sub64 _ _ _ l0 p0 p1 n0 n1 W, e1, e2]
      have HSUB := Lib.hid hsub
      have hX := hx.set_ (a + k) (limb (F - V * g) k)
      rw [aM_set _ _ _ _ _ _ hn (by omega)] at hX
      have HX := Lib.hid hX
      have HB := Lib.hid (hbl.setCell (p := ⟨G, a + k, none⟩) (Nat.le_refl _) (.int .u64 (limb (F - V * g) k)))
      have HFR := Lib.hid (hfar.set (a + k) (.int .u64 (limb (F - V * g) k)))
      clear hx hbl hX hsub e1 e2 r1 r2 hD hy
      have gI : (k : Int) < (n : Int) := by omega
      have aI : (a : Int) + k < 9 := by omega
      have aI0 : (0 : Int) ≤ (a : Int) + k := by omega
      have aIN : ((a : Int) + (k : Int)).toNat = a + k := by omega
      have hwa : IntKind.i64.wrap ((a : Int) + (k : Int)) = ((a + k : Nat) : Int) := by rw [IntKind.wrap_i64]; omega
      go_wp2_with (fail)
      refine (HMA.out _).mono ?_
      rintro e w2 ⟨rfl, rfl⟩
      clear HMA
      generalize hca : carT V g 18446744073709551616 (k + 1) = CA at *
      have HCA := Lib.hid hca
      clear hca
      go_wp2_with (fail)
      go_region_law (refine step_ext rfl 78 (.tmp 42) (.tmp 43) (.tmp 44) _ _ _ rfl (.int .u64 (limb F k)) (.int .u64 (limb (V * g) k)) (.int .u64 (bW F (V * g) k)) (.tuple #[.int .u64 (limb (F - V * g) k), .int .u64 (bW F (V * g) (k + 1))]) (by simp [Act.eval]) (by simp [Act.eval]) (by simp [Act.eval]) (HSUB.out _) ?_)
      all_goals
        go_wp2
        go_roundw
        case rel => exact ⟨k + 1, by omega, by go_num, by rw [HCA.out], rfl, HX.out, HB.out.drew, HFR.out.drew⟩
        case measure => simp [intOf]; omega
    · obtain rfl : k = n := by omega
      have c1 := hx.cell (a + k) (by simp; omega)
      rw [aM_get _ _ _ _ _ _ hn (by omega)] at c1
      have z1 := hx.free (a + k)
      obtain ⟨l0, l1⟩ := limb_w F k
      obtain ⟨p0, p1⟩ := limb_w (V * g) k
      obtain ⟨n0, n1⟩ := bW_b F (V * g) k
      obtain ⟨e1, e2⟩ := sub_limb F (V * g) k HVU.out
      have hsub : ∀ W : World, (callFunc 78 #[.int .u64 (limb F k), .int .u64 (limb (V * g) k), .int .u64 (bW F (V * g) k)]).run Tryd.prog W = .ok (.value (.tuple #[.int .u64 (limb (F - V * g) k), .int .u64 (bW F (V * g) (k + 1))])) W := fun W => by
        rw [sub64 _ _ _ l0 p0 p1 n0 n1 W, e1, e2]
      have HSUB := Lib.hid hsub
      have hX := hx.set_ (a + k) (limb (F - V * g) k)
      rw [aM_set _ _ _ _ _ _ hn (by omega), aM_all, ← aR_mod] at hX
      have HXa := Lib.hid hX
      have HBa := Lib.hid (hbl.setCell (p := ⟨G, a + k, none⟩) (Nat.le_refl _) (.int .u64 (limb (F - V * g) k)))
      have HFa := Lib.hid (hfar.set (a + k) (.int .u64 (limb (F - V * g) k)))
      have aI : (a : Int) + k < 9 := by omega
      have aI0 : (0 : Int) ≤ (a : Int) + k := by omega
      have aIN : ((a : Int) + (k : Int)).toNat = a + k := by omega
      have hwa : IntKind.i64.wrap ((a : Int) + (k : Int)) = ((a + k : Nat) : Int) := by rw [IntKind.wrap_i64]; omega
      have hco := HTOP.out
      clear hx hbl hX hsub e1 e2 hD hfar
      rw [hco]
      clear hco
      go_wp2_with (fail)
      go_cut [10] (fun bo wx => bo = .int .u64 (bW F (V * g) (k + 1)) ∧ Hid (Box wx G 113 (aR D a k ((F - V * g) % 18446744073709551616 ^ (k + 1)))) ∧ Hid (Below G w wx) ∧ Hid (Far G w wx))
      case first =>
        go_region_law (refine step_ext rfl 78 (.tmp 62) (.tmp 63) (.tmp 64) _ _ _ rfl (.int .u64 (limb F k)) (.int .u64 (limb (V * g) k)) (.int .u64 (bW F (V * g) k)) (.tuple #[.int .u64 (limb (F - V * g) k), .int .u64 (bW F (V * g) (k + 1))]) (by simp [Act.eval]) (by simp [Act.eval]) (by simp [Act.eval]) (HSUB.out _) ?_)
        all_goals
          go_wp2_with (fail)
          go_meet
          exact ⟨rfl, HXa, Lib.hid HBa.out.drew, Lib.hid HFa.out.drew⟩
      case rest =>
      clear HXa HBa HFa HSUB
      obtain ⟨rfl, HX, HB, HFR⟩ := hcut
      go_wp2_with (fail)
      go_loopw [3, 10] (fun gu bo wx => ∃ g1 Y b : Nat, gu = .int .u64 g1 ∧ bo = .int .u64 b ∧ Hid (RedInv E V (18446744073709551616 ^ (k + 1)) g1 Y b) ∧ Hid (Box wx G 113 (aR D a k Y)) ∧ Hid (Below G w wx) ∧ Hid (Far G w wx)) (fun gu _ _ => (intOf gu).toNat)
      case atStart => exact ⟨g, _, _, rfl, by rw [HBOR.out]; split <;> rfl, HST, HX, HB, HFR⟩
      case round =>
        obtain ⟨g1, Y, b, rfl, rfl, hinv, hbx, hbl2, hfar2⟩ := hrel
        clear HX HB HFR HBOR HST
        rcases (show b = 0 ∨ b = 1 by rcases hinv.out.2.2.2 with h | h <;> omega) with rfl | rfl
        · obtain ⟨f1, f2⟩ := red_end hV0 HEE.out HEM.out hinv.out
          have HR2 := Lib.hid (f2 ▸ hbx.out)
          subst f1
          go_wp2_with (fail)
          go_ret
          exact ⟨rfl, HR2.out, hbl2.out, hfar2.out⟩
        · rw [show ((1 : Nat) : Int) = 1 from rfl]
          have hrd := red_round hV0 HVN.out hinv.out
          have HRD := Lib.hid hrd
          have hg0 := hrd.1
          have hgB := hinv.out.2.1
          have hwg : IntKind.u64.wrap ((g1 : Int) - 1) = ((g1 - 1 : Nat) : Int) := by rw [IntKind.wrap_u64]; omega
          have HCAR := Lib.hid (red_car hinv.out.1 HVN.out)
          have HVZ := Lib.hid (limb_zero V k HVN.out)
          clear hrd
          go_wp2_with (fail)
          go_loopw [9, 76] (fun c i wy => ∃ j : Nat, j ≤ k ∧ i = .int .i64 j ∧ c = .int .u64 (carW Y V j) ∧ Box wy G 113 (aM D a k Y (Y + V) j) ∧ Below G w wy ∧ Far G w wy) (fun _ i _ => k - (intOf i).toNat)
          case atStart => exact ⟨0, by omega, rfl, by rw [carW_zero], by rw [aM_zero]; exact hbx.out, hbl2.out, hfar2.out⟩
          case round =>
            obtain ⟨j, hj, rfl, rfl, hx, hbl, hfar⟩ := hrel
            clear hbx hbl2 hfar2
            have c1 := hx.cell (a + j) (by simp; omega)
            rw [aM_get _ _ _ _ _ _ hn hj] at c1
            have z1 := hx.free (a + j)
            obtain ⟨l0, l1⟩ := limb_w Y j
            obtain ⟨m0, m1⟩ := limb_w V j
            obtain ⟨n0, n1⟩ := carW_b Y V j
            obtain ⟨e1, e2⟩ := add_limb Y V j
            have hadd : ∀ W : World, (callFunc 77 #[.int .u64 (limb Y j), .int .u64 (limb V j), .int .u64 (carW Y V j)]).run Tryd.prog W = .ok (.value (.tuple #[.int .u64 (limb (Y + V) j), .int .u64 (carW Y V (j + 1))])) W := fun W => by
              rw [add64 _ _ _ l0 m0 n0 n1 W, e1, e2]
            have HADD := Lib.hid hadd
            have hX := hx.set_ (a + j) (limb (Y + V) j)
            rw [aM_set _ _ _ _ _ _ hn hj] at hX
            have HX := Lib.hid hX
            have HB := Lib.hid (hbl.setCell (p := ⟨G, a + j, none⟩) (Nat.le_refl _) (.int .u64 (limb (Y + V) j)))
            have HFR := Lib.hid (hfar.set (a + j) (.int .u64 (limb (Y + V) j)))
            have aI : (a : Int) + j < 9 := by omega
            have aI0 : (0 : Int) ≤ (a : Int) + j := by omega
            have aIN : ((a : Int) + (j : Int)).toNat = a + j := by omega
            have hwa : IntKind.i64.wrap ((a : Int) + (j : Int)) = ((a + j : Nat) : Int) := by rw [IntKind.wrap_i64]; omega
            clear hX hadd e1 e2 hx hbl
            by_cases g2 : j < k
            · have hy := hfar.box hV hne
              have c2 := hy.cell j (by simp; omega)
              rw [lm_get V j (by omega)] at c2
              have gI : (j : Int) < (k : Int) := by omega
              clear hy hfar
              go_wp2_with (fail)
              go_region_law (refine step_ext rfl 77 (.tmp 92) (.tmp 93) (.tmp 94) _ _ _ rfl (.int .u64 (limb Y j)) (.int .u64 (limb V j)) (.int .u64 (carW Y V j)) (.tuple #[.int .u64 (limb (Y + V) j), .int .u64 (carW Y V (j + 1))]) (by simp [Act.eval]) (by simp [Act.eval]) (by simp [Act.eval]) (HADD.out _) ?_)
              all_goals
                go_wp2
                go_roundw
                case rel => exact ⟨j + 1, by omega, by go_num, rfl, HX.out, HB.out.drew, HFR.out.drew⟩
                case measure => simp [intOf]; omega
            · obtain rfl : j = k := by omega
              rw [HVZ.out] at HADD
              have hX2 := HX.out
              rw [aM_all, ← aR_mod] at hX2
              have HX2 := Lib.hid hX2
              clear hX2 HX
              go_wp2_with (fail)
              go_cut [9] from 101 to 114 (fun ca wz => ca = .int .u64 (carW Y V (j + 1)) ∧ Hid (Box wz G 113 (aR D a j ((Y + V) % 18446744073709551616 ^ (j + 1)))) ∧ Hid (Below G w wz) ∧ Hid (Far G w wz))
              case first =>
                go_region_law (refine step_ext rfl 77 (.tmp 108) (.const (.int .u64 0)) (.tmp 109) _ _ _ rfl (.int .u64 (limb Y j)) (.int .u64 0) (.int .u64 (carW Y V j)) (.tuple #[.int .u64 (limb (Y + V) j), .int .u64 (carW Y V (j + 1))]) (by simp [Act.eval]) (by simp [Act.eval]) (by simp [Act.eval]) (HADD.out _) ?_)
                all_goals
                  go_wp2_with (fail)
                  go_meet
                  exact ⟨rfl, HX2, Lib.hid HB.out.drew, Lib.hid HFR.out.drew⟩
              case rest =>
              obtain ⟨rfl, HX3, HB3, HF3⟩ := hcut
              have hle := HRD.out.2.2
              have hwc : IntKind.u64.wrap (1 - carW Y V (j + 1)) = ((1 - (Y + V) / 18446744073709551616 ^ (j + 1) : Nat) : Int) := by
                rw [HCAR.out]; exact wrap_1m hle
              clear HX2 HB HFR hle
              go_wp2
              refine ⟨⟨_, _, _, rfl, rfl, Lib.hid HRD.out.2.1, HX3, HB3, HF3⟩, ?_⟩
              show (((_ - 1 : Nat)) : Int).toNat < ((_ : Nat) : Int).toNat
              omega
end Go.Proofs.YtnkklmbmodkogaaDoor
