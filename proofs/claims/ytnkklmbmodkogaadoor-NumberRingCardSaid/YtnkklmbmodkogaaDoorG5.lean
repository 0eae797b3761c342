/- magnitude.multiply. magnitude.power. Plain arithmetic of a division of two words by one, digit by digit. No walk. number.Power, over an Int's value. -/
import Derived.Test.YtnkklmbmodkogaaDoorG4
import Derived.Test.YtnkklmbmodkogaaDoorG1
import Derived.Laws.CopyOwn
import Derived.Deep.RegionLaw
/-! M8 -/
namespace Go.Proofs.YtnkklmbmodkogaaDoor
open Go.RowKit

theorem times_intW {u v i k X c : Nat} (s : Int) (hs : s = limb u i * limb v k + limb X (i + k) + c) :
    lo64 s = (((X / 18446744073709551616 ^ (i + k) % 18446744073709551616 + u / 18446744073709551616 ^ i % 18446744073709551616 * (v / 18446744073709551616 ^ k % 18446744073709551616) + c) % 18446744073709551616 : Nat) : Int) ∧
    hi64 s = (((X / 18446744073709551616 ^ (i + k) % 18446744073709551616 + u / 18446744073709551616 ^ i % 18446744073709551616 * (v / 18446744073709551616 ^ k % 18446744073709551616) + c) / 18446744073709551616 : Nat) : Int) := by
  have e : s = ((X / 18446744073709551616 ^ (i + k) % 18446744073709551616 + u / 18446744073709551616 ^ i % 18446744073709551616 * (v / 18446744073709551616 ^ k % 18446744073709551616) + c : Nat) : Int) := by
    rw [hs]; unfold limb; rw [Int.natCast_add, Int.natCast_add, Int.natCast_mul, Int.add_comm (_ * _)]
  rw [e]
  unfold lo64 hi64
  exact ⟨by rw [Int.natCast_emod]; rfl, by rw [Int.natCast_ediv]; rfl⟩
theorem times_cW (x y z C : Nat) (hC : C < 18446744073709551616) : (x % 18446744073709551616 + y % 18446744073709551616 * (z % 18446744073709551616) + C) / 18446744073709551616 < 18446744073709551616 := by
  have : y % 18446744073709551616 * (z % 18446744073709551616) ≤ 18446744073709551615 * 18446744073709551615 := Nat.mul_le_mul (by omega) (by omega)
  omega
/-- The four variables that multiply lays. -/
theorem boxes4 (w : World) (T T' T'' T3 : TypeId) (P Q R S : Array Value) :
    Var ((((w.alloc (.cells P T)).alloc (.cells Q T')).alloc (.cells R T'')).alloc (.cells S T3)) w.heap.size T P ∧ Var ((((w.alloc (.cells P T)).alloc (.cells Q T')).alloc (.cells R T'')).alloc (.cells S T3)) (w.heap.size + 1) T' Q ∧
    Var ((((w.alloc (.cells P T)).alloc (.cells Q T')).alloc (.cells R T'')).alloc (.cells S T3)) (w.heap.size + 2) T'' R ∧ Var ((((w.alloc (.cells P T)).alloc (.cells Q T')).alloc (.cells R T'')).alloc (.cells S T3)) (w.heap.size + 3) T3 S ∧
    Below w.heap.size w ((((w.alloc (.cells P T)).alloc (.cells Q T')).alloc (.cells R T'')).alloc (.cells S T3)) ∧ w.heap.size + 4 ≤ ((((w.alloc (.cells P T)).alloc (.cells Q T')).alloc (.cells R T'')).alloc (.cells S T3)).heap.size := by
  obtain ⟨h1, h2, h3, h4, h5⟩ := boxes3 w T T' T'' P Q R
  have e : (((w.alloc (.cells P T)).alloc (.cells Q T')).alloc (.cells R T'')).heap.size = w.heap.size + 3 := by simp
  refine ⟨h1.alloc _, h2.alloc _, h3.alloc _, ?_, h4.trans ((below_alloc _ _).mono (by omega)), by simp⟩
  have := Var.new (((w.alloc (.cells P T)).alloc (.cells Q T')).alloc (.cells R T'')) T3 S
  rwa [e] at this
theorem zero16 : mag (List.replicate 16 0) = #[.int .u64 0, .int .u64 0, .int .u64 0, .int .u64 0, .int .u64 0, .int .u64 0, .int .u64 0, .int .u64 0, .int .u64 0, .int .u64 0, .int .u64 0, .int .u64 0, .int .u64 0, .int .u64 0, .int .u64 0, .int .u64 0] := rfl
/-- What is handed back beside the report. -/
def prodM (n : Nat) : Nat := if fits n then n else 0
theorem prodM_yes {n : Nat} (h : fits n = true) : prodM n = n := by unfold prodM; rw [h]; rfl
theorem prodM_no {n : Nat} (h : fits n = false) : prodM n = 0 := by unfold prodM; rw [h]; rfl
theorem fits_iff' (X : Nat) (hX : X < 18446744073709551616 ^ 16) : fits X = true ↔ ∀ j, j < 8 → limb X (8 + j) = 0 := by
  rw [fits_iff]
  constructor
  · intro h j hj
    exact limb_zero _ _ (Nat.lt_of_lt_of_le h (Nat.pow_le_pow_right (by omega) (by omega)))
  · intro h
    have key : ∀ k, k ≤ 8 → X < 18446744073709551616 ^ (16 - k) := by
      intro k
      induction k with
      | zero => intro _; exact hX
      | succ k ih =>
        intro hk
        have h1 := ih (by omega)
        have h2 := h (7 - k) (by omega)
        have e : 8 + (7 - k) = 16 - (k + 1) := by omega
        rw [e] at h2
        have e2 : (18446744073709551616 : Nat) ^ (16 - k) = 18446744073709551616 ^ (16 - (k + 1)) * 18446744073709551616 := by rw [← Nat.pow_succ]; congr 1; omega
        rw [e2] at h1
        have h3 : X / 18446744073709551616 ^ (16 - (k + 1)) < 18446744073709551616 := Nat.div_lt_of_lt_mul h1
        unfold limb at h2
        rcases Nat.lt_or_ge X (18446744073709551616 ^ (16 - (k + 1))) with hl | hl
        · exact hl
        · have := Nat.div_pos hl (Nat.pow_pos (by omega)); omega
    exact key 8 (by omega)

set_option maxRecDepth 100000 in
set_option maxHeartbeats 4000000 in
theorem multiply_mag (u v : Nat) (w : World) (hu : u < 18446744073709551616 ^ 8) (hv : v < 18446744073709551616 ^ 8) :
    Calls Tryd.prog 50 #[.agg (mag (lm u)), .agg (mag (lm v))] w fun e w' => e = .returned (.tuple #[.agg (mag (lm (prodM (u * v)))), .bool (fits (u * v))]) ∧ Below w.heap.size w w' := by
  have hl8 : top (lm u) ≤ 8 := by have := top_le (lm u); simpa using this
  have hr8 : top (lm v) ≤ 8 := by have := top_le (lm v); simpa using this
  have HU := Lib.hid (top_lm_lt hu)
  have HV := Lib.hid (top_lm_lt hv)
  have HUV : Hid (u * v < 18446744073709551616 ^ 16) := by
    have : u * v < 18446744073709551616 ^ 8 * 18446744073709551616 ^ 8 := Nat.mul_lt_mul'' hu hv
    rw [← Nat.pow_add] at this; exact this
  clear hu hv
  obtain ⟨hv0, hv1, hv2, hv3, hbW, hsz⟩ := boxes4 w 56 56 56 89 (mag (lm u)) (mag (lm v)) (mag [0, 0, 0, 0, 0, 0, 0, 0]) (mag (List.replicate 16 0))
  have hx : Box _ _ _ (lm u) := hv0
  have hy : Box _ _ _ (lm v) := hv1
  clear hv0 hv1
  rw [zero8, zero16] at *
  go_enter Tryd.func50, Tryd.ntmps50
  go_wp2_with (refine ldm rfl _ rfl _ rfl _ hy (lm_len v) ?_)
  generalize (((w.alloc (.cells (mag (lm u)) 56)).alloc (.cells (mag (lm v)) 56)).alloc (.cells #[.int .u64 0, .int .u64 0, .int .u64 0, .int .u64 0, .int .u64 0, .int .u64 0, .int .u64 0, .int .u64 0] 56)).alloc (.cells #[.int .u64 0, .int .u64 0, .int .u64 0, .int .u64 0, .int .u64 0, .int .u64 0, .int .u64 0, .int .u64 0, .int .u64 0, .int .u64 0, .int .u64 0, .int .u64 0, .int .u64 0, .int .u64 0, .int .u64 0, .int .u64 0] 89) = W at *
  have hlt : w.heap.size + 3 < W.heap.size := by omega
  have hz : Box W (w.heap.size + 2) 56 [0, 0, 0, 0, 0, 0, 0, 0] := hv2
  have hq : Box W (w.heap.size + 3) 89 (List.replicate 16 0) := hv3
  have HW := Lib.hid hbW
  clear hv2 hv3 hbW hsz
  refine (length_any (lm v) _ (lm_len v)).mono ?_
  rintro e w1 ⟨rfl, hb1⟩
  have hx1 := hx.below hb1 (by omega)
  go_wp2_with (refine ldm rfl _ rfl _ rfl _ hx1 (lm_len u) ?_)
  refine (length_any (lm u) _ (lm_len u)).mono ?_
  rintro e w2 ⟨rfl, hb2⟩
  have hb3 := hb1.trans (hb2.mono hb1.size)
  have HX := Lib.hid (hx.below hb3 (by omega))
  have HY := Lib.hid (hy.below hb3 (by omega))
  have HZ := Lib.hid (hz.below hb3 (by omega))
  have HQ := Lib.hid (hq.below hb3 (by omega))
  have HW2 := Lib.hid (HW.out.trans (hb3.mono (by omega)))
  have hlt2 : w.heap.size + 3 < w2.heap.size := by have := hb3.size; omega
  clear hx hy hz hq hx1 hb1 hb2 hb3 hlt
  generalize top (lm u) = l at *
  generalize top (lm v) = r at *
  go_wp2
  go_loopw [8, 9, 10, 18] (fun _ _ _ i wr => ∃ k : Nat, k ≤ l ∧ i = .int .i64 k ∧ Box wr (w.heap.size + 3) 89 (lw (u % 18446744073709551616 ^ k * v) 16) ∧ Box wr w.heap.size 56 (lm u) ∧ Box wr (w.heap.size + 1) 56 (lm v) ∧ Box wr (w.heap.size + 2) 56 [0, 0, 0, 0, 0, 0, 0, 0] ∧ Below w.heap.size w2 wr) (fun _ _ _ i _ => l - (intOf i).toNat)
  case atStart => exact ⟨0, Nat.zero_le _, rfl, by rw [Nat.pow_zero, Nat.mod_one, Nat.zero_mul, lw_zero]; exact HQ.out, HX.out, HY.out, HZ.out, Below.refl _ _⟩
  case round =>
    obtain ⟨i, hi, rfl, hwide, hx, hy, hz, hbl⟩ := hrel
    by_cases g1 : i < l
    · have hrow := Lib.hid (times_row_boundW (u := u) (i := i) HV.out)
      have HWI := Lib.hid hwide
      have HX2 := Lib.hid hx
      have HY2 := Lib.hid hy
      have HZ2 := Lib.hid hz
      have HB := Lib.hid hbl
      have gI : (i : Int) < l := by omega
      clear hwide hx hy hz hbl
      go_wp2
      obtain ⟨wo, rfl⟩ : ∃ wo : World, wo = wr := ⟨_, rfl⟩
      go_loopw [9, 10, 22] (fun c _ j wr => ∃ j0 X C : Nat, j0 ≤ r ∧ j = .int .i64 j0 ∧ c = .int .u64 C ∧ Hid (TimesInvW u v i j0 X C) ∧ Hid (X < 18446744073709551616 ^ (i + r)) ∧ Hid (C < 18446744073709551616) ∧ Box wr (w.heap.size + 3) 89 (lw X 16) ∧ Box wr w.heap.size 56 (lm u) ∧ Box wr (w.heap.size + 1) 56 (lm v) ∧ Box wr (w.heap.size + 2) 56 [0, 0, 0, 0, 0, 0, 0, 0] ∧ Below w.heap.size w2 wr) (fun _ _ j _ => r - (intOf j).toNat)
      case atStart => exact ⟨0, _, 0, Nat.zero_le _, rfl, rfl, times_firstW u v i, hrow.out, Lib.hid (by decide), HWI.out, HX2.out, HY2.out, HZ2.out, HB.out⟩
      case round =>
        obtain ⟨j, X, C, hj, rfl, rfl, hinv, hX, hC, hwide, hx, hy, hz, hbl⟩ := hrel
        by_cases g2 : j < r
        · have c1 := hx.cell i (by simp; omega)
          have c2 := hy.cell j (by simp; omega)
          have c3 := hwide.cell (i + j) (by simp; omega)
          rw [lm_get _ _ (by omega)] at c1 c2
          rw [lw_get _ _ _ (by omega)] at c3
          have z3 := hwide.free (i + j)
          have hm := Lib.hid (fun W => mulAdd_any (limb u i) (limb v j) (limb X (i + j)) C W (limb_w u i) (limb_w v j) (limb_w X (i + j)) ⟨by omega, by have := hC.out; omega⟩)
          have hs := times_intW (u := u) (v := v) (i := i) (k := j) (X := X) (c := C) (limb u i * limb v j + limb X (i + j) + C) rfl
          have hB1 := hwide.set_ (i + j) (lo64 (limb u i * limb v j + limb X (i + j) + C))
          have hse : (lw X 16).set (i + j) (lo64 (limb u i * limb v j + limb X (i + j) + C)) = _ := (congrArg _ hs.1).trans (lw_set X 16 (i + j) _ (Nat.mod_lt _ (by omega)))
          rw [hse] at hB1
          have HB1 := Lib.hid hB1
          have HS := Lib.hid hs.2
          have HI := Lib.hid (times_stepW hinv.out)
          have HL := Lib.hid (holeW_lt (y := (X / 18446744073709551616 ^ (i + j) % 18446744073709551616 + u / 18446744073709551616 ^ i % 18446744073709551616 * (v / 18446744073709551616 ^ j % 18446744073709551616) + C) % 18446744073709551616) hX.out (show i + j < i + r by omega) (Nat.mod_lt _ (by omega)))
          have HX3 := Lib.hid (hx.far (p := ⟨w.heap.size + 3, i + j, none⟩) (by simp) (.int .u64 (lo64 (limb u i * limb v j + limb X (i + j) + C))))
          have HY3 := Lib.hid (hy.far (p := ⟨w.heap.size + 3, i + j, none⟩) (by simp) (.int .u64 (lo64 (limb u i * limb v j + limb X (i + j) + C))))
          have HZ3 := Lib.hid (hz.far (p := ⟨w.heap.size + 3, i + j, none⟩) (by simp) (.int .u64 (lo64 (limb u i * limb v j + limb X (i + j) + C))))
          have HB3 := Lib.hid (hbl.setCell (p := ⟨w.heap.size + 3, i + j, none⟩) (by show w.heap.size ≤ w.heap.size + 3; omega) (.int .u64 (lo64 (limb u i * limb v j + limb X (i + j) + C))))
          have gJ : (j : Int) < r := by omega
          have gK : (i : Int) + j < 16 := by omega
          have gI8 : (i : Int) < 8 := by omega
          have gJ8 : (j : Int) < 8 := by omega
          have c4 : wr.cell? ⟨w.heap.size + 1 + 1 + 1, i + j, none⟩ = some (.int .u64 (limb X (i + j))) := c3
          have z4 : wr.frozen? ⟨w.heap.size + 1 + 1 + 1, i + j, none⟩ = false := z3
          have ew : IntKind.i64.wrap ((i : Int) + j) = (i : Int) + j := IntWalk.i64_in _ (by omega)
          have ez : 0 ≤ (i : Int) + j := by omega
          have et : ((i : Int) + j).toNat = i + j := by omega
          clear hwide hx hy hz hbl hs hse hB1 c3 z3
          go_wp2
          go_region_law (first | (go_simp; go_at_call 73; refine (hm.out _).mono ?_; rintro e w' ⟨rfl, rfl⟩))
          all_goals
            go_wp2
            go_roundw
            case rel => exact ⟨j + 1, _, _, by omega, by go_num, vi HS.out, HI.out, HL.out, times_cW _ _ _ _ hC.out, HB1.out, HX3.out, HY3.out, HZ3.out, HB3.out.drew⟩
            case measure => simp [intOf]; omega
        · obtain rfl : j = r := by omega
          have hC1 := hC.out
          have hB1 := hwide.set_ (i + j) (C : Int)
          rw [lw_set X 16 (i + j) C hC1, holeW_small hX.out, times_lastW hinv.out HV.out] at hB1
          have HB1 := Lib.hid hB1
          have c3 := hwide.cell (i + j) (by simp; omega)
          have z3 := hwide.free (i + j)
          have c4 : wr.cell? ⟨w.heap.size + 1 + 1 + 1, i + j, none⟩ = _ := c3
          have z4 : wr.frozen? ⟨w.heap.size + 1 + 1 + 1, i + j, none⟩ = false := z3
          have HX3 := Lib.hid (hx.far (p := ⟨w.heap.size + 3, i + j, none⟩) (by simp) (.int .u64 (C : Int)))
          have HY3 := Lib.hid (hy.far (p := ⟨w.heap.size + 3, i + j, none⟩) (by simp) (.int .u64 (C : Int)))
          have HZ3 := Lib.hid (hz.far (p := ⟨w.heap.size + 3, i + j, none⟩) (by simp) (.int .u64 (C : Int)))
          have HB3 := Lib.hid (hbl.setCell (p := ⟨w.heap.size + 3, i + j, none⟩) (by show w.heap.size ≤ w.heap.size + 3; omega) (.int .u64 (C : Int)))
          have gK : (i : Int) + j < 16 := by omega
          have ez : 0 ≤ (i : Int) + j := by omega
          clear hwide hx hy hz hbl hB1 hC1 c3 z3
          go_wp2
          go_roundw
          case rel => exact ⟨i + 1, by omega, by go_num, HB1.out, HX3.out, HY3.out, HZ3.out, HB3.out⟩
          case measure => simp [intOf]; omega
    · obtain rfl : i = l := by omega
      rw [Nat.mod_eq_of_lt HU.out] at hwide
      have HQ2 := Lib.hid hwide
      have HZ2 := Lib.hid hz
      have HB := Lib.hid hbl
      clear hx hy hwide hz hbl HQ HX HY HZ
      have HF := Lib.hid (fits_iff' (u * v) HUV.out)
      go_wp2
      have hnew : Var (wr.alloc (.cells #[.int .u64 0, .int .u64 0, .int .u64 0, .int .u64 0, .int .u64 0, .int .u64 0, .int .u64 0, .int .u64 0] 56)) wr.heap.size 56 _ := Var.new wr 56 _
      have hq3 := HQ2.out.alloc (.cells #[.int .u64 0, .int .u64 0, .int .u64 0, .int .u64 0, .int .u64 0, .int .u64 0, .int .u64 0, .int .u64 0] 56)
      have hz3 := HZ2.out.alloc (.cells #[.int .u64 0, .int .u64 0, .int .u64 0, .int .u64 0, .int .u64 0, .int .u64 0, .int .u64 0, .int .u64 0] 56)
      have hb3 := HB.out.alloc (by have := HQ2.out.lt; omega) (.cells #[.int .u64 0, .int .u64 0, .int .u64 0, .int .u64 0, .int .u64 0, .int .u64 0, .int .u64 0, .int .u64 0] 56)
      have hp3 : w.heap.size + 3 < wr.heap.size := HQ2.out.lt
      generalize hP : wr.heap.size = p at *
      generalize wr.alloc (.cells #[.int .u64 0, .int .u64 0, .int .u64 0, .int .u64 0, .int .u64 0, .int .u64 0, .int .u64 0, .int .u64 0] 56) = V at *
      have HP := Lib.hid hP
      have HN := Lib.hid hnew
      have HQ3 := Lib.hid hq3
      have HZ3 := Lib.hid hz3
      have HB3 := Lib.hid hb3
      have hlen : ((lm (u * v)).map (Value.int .u64)).length = 8 := by simp
      have HPOS := Lib.hid (show some (⟨p, 0, none⟩ : Addr) = some ⟨p, 0, none⟩ ∧ ∃ ad, some (⟨w.heap.size + 1 + 1 + 1, 0, none⟩ : Addr) = some ad ∧ ∀ j x, ((lm (u * v)).map (Value.int .u64))[j]? = some x → V.cell? (ad.add j) = some x from
        ⟨rfl, _, rfl, fun j x hj => by
          have hj8 : j < 8 := by have := (List.getElem?_eq_some_iff.1 hj).1; simpa using this
          have e : (⟨w.heap.size + 1 + 1 + 1, 0, none⟩ : Addr).add j = ⟨w.heap.size + 3, j, none⟩ := by unfold Addr.add; split <;> simp_all
          rw [e, HQ3.out.cell j (by simp; omega), lw_get _ _ _ (by omega)]
          simpa [lm, hj8] using hj⟩)
      have HONE := Lib.hid (show ∀ x ∈ (lm (u * v)).map (Value.int .u64), x.oneCell' = true from by intro x hx; simp only [List.mem_map] at hx; obtain ⟨y, _, rfl⟩ := hx; rfl)
      have HBL := Lib.hid ((Below.refl p V).drew)
      clear hP hnew hq3 hz3 hb3
      go_region_law (refine step_copy_splice rfl (.tmp 52) (.tmp 53) 92 92 rfl 54 Tryd.underlying92 (by kernel_rfl) (some ⟨p, 0, none⟩) (some ⟨w.heap.size + 1 + 1 + 1, 0, none⟩) 8 8 8 16 (by rfl) (by rfl) p 0 (List.replicate 8 (.int .u64 0)) 56 (by exact HN.out) ((lm (u * v)).map (Value.int .u64)) (by simp) (fun _ => by exact HPOS.out) (by simp) HONE.out p V (by exact HBL.out) (Nat.le_refl _) ?_; intro w5 hg5 hb5)
      have hsp : Box w5 p 56 (lm (u * v)) := by
        have h5 := hg5.out
        simp only [splice, List.take_zero, List.nil_append, Nat.zero_add, List.length_map, lm_len, List.drop_replicate, Nat.sub_self, List.replicate_zero, List.append_nil] at h5
        exact h5
      have hq5 := HQ3.out.below hb5 (by omega)
      have hz5 := HZ3.out.below hb5 (by omega)
      have HS5 := Lib.hid hsp
      have HQ5 := Lib.hid hq5
      have HZ5 := Lib.hid hz5
      have HB5 := Lib.hid (HW2.out.trans (HB3.out.trans (hb5.mono (by omega))))
      clear hsp hq5 hz5 hb5 hg5
      go_wp2
      go_loopw [13, 57] (fun _ i wr => ∃ k : Nat, k ≤ 8 ∧ i = .int .i64 k ∧ Hid (∀ j, j < k → limb (u * v) (8 + j) = 0) ∧ wr = w5) (fun _ i _ => 8 - (intOf i).toNat)
      case atStart => exact ⟨0, by omega, rfl, fun j hj => by omega, rfl⟩
      case round =>
        obtain ⟨k, hk, rfl, hzero, rfl⟩ := hrel
        have c6 : k < 8 → wr.cell? ⟨w.heap.size + 1 + 1 + 1, 8 + k, none⟩ = some (.int .u64 (limb (u * v) (8 + k))) := fun h => by
          have := HQ5.out.cell (8 + k) (by simp; omega)
          rwa [lw_get _ _ _ (by omega)] at this
        by_cases g3 : k < 8
        · have gI : (k : Int) < 8 := by omega
          have c7 := c6 g3
          clear c6
          by_cases g4 : limb (u * v) (8 + k) = 0
          · have hE : (limb (u * v) (8 + k) != 0) = false := by simp [g4]
            have hZ2 : Hid (∀ j, j < k + 1 → limb (u * v) (8 + j) = 0) := fun j hj => by
              rcases Nat.lt_or_ge j k with h | h
              · exact hzero.out j h
              · obtain rfl : j = k := by omega
                exact g4
            clear g4
            go_wp2
            go_roundw
            case rel => exact ⟨k + 1, by omega, by go_num, hZ2, trivial⟩
            case measure => simp [intOf]; omega
          · have hE : (limb (u * v) (8 + k) != 0) = true := by simp [g4]
            have hFF : fits (u * v) = false := by
              cases hf : fits (u * v)
              · rfl
              · exact absurd (HF.out.1 hf k g3) g4
            have HFF := Lib.hid hFF
            clear g4 hFF
            go_wp2_with (first | (refine stm rfl _ _ rfl _ rfl _ [0, 0, 0, 0, 0, 0, 0, 0] rfl HZ5.out rfl rfl ?_))
            refine bodyPost_ret (res_mag_tmp rfl _ _ (w.heap.size + 2) [0, 0, 0, 0, 0, 0, 0, 0] (.bool false) rfl rfl HZ5.out.setRow rfl) rfl ⟨?_, below_setRow HB5.out (by omega)⟩
            rw [prodM_no HFF.out, HFF.out, lm_zero]
        · obtain rfl : k = 8 := by omega
          have hFF : fits (u * v) = true := HF.out.2 hzero.out
          have HFF := Lib.hid hFF
          clear hFF c6
          go_wp2_with (first | (refine ldm rfl _ rfl _ rfl _ HS5.out (lm_len _) ?_) | (refine stm rfl _ _ rfl _ rfl _ _ rfl HZ5.out (lm_len _) rfl ?_))
          refine bodyPost_ret (res_mag_tmp rfl _ _ (w.heap.size + 2) (lm (u * v)) (.bool true) rfl rfl HZ5.out.setRow (lm_len _)) rfl ⟨?_, below_setRow HB5.out (by omega)⟩
          rw [prodM_yes HFF.out, HFF.out]
end Go.Proofs.YtnkklmbmodkogaaDoor

/-! M9 -/
namespace Go.Proofs.YtnkklmbmodkogaaDoor
open Go.RowKit

/-- What the loop holds: the power of the upper bits, or that it does not fit. -/
def PowSt (a n k : Nat) (b : Bool) (q : Nat) : Prop := if b then q = a ^ (n / 2 ^ k) ∧ fits q = true else q = 0 ∧ fits (a ^ n) = false
theorem fits_mono {x y : Nat} (h : x ≤ y) (hx : fits x = false) : fits y = false := by
  cases hy : fits y
  · rfl
  · rw [fits_iff] at hy
    have : fits x = true := (fits_iff x).2 (Nat.lt_of_le_of_lt h hy)
    rw [this] at hx; cases hx
theorem fits_small (x : Nat) (h : x ≤ 1) : fits x = true := (fits_iff x).2 (Nat.lt_of_le_of_lt h (by decide))
theorem pow_le_of {a m n : Nat} (ha : 1 ≤ a) (h : m ≤ n) : a ^ m ≤ a ^ n := Nat.pow_le_pow_right ha h
theorem half_step (n k : Nat) : n / 2 ^ k = 2 * (n / 2 ^ (k + 1)) + n / 2 ^ k % 2 := by rw [Nat.pow_succ, ← Nat.div_div_eq_div_mul]; omega
theorem pow_sq {a n k q : Nat} (hq : q = a ^ (n / 2 ^ (k + 1))) : q * q = a ^ (2 * (n / 2 ^ (k + 1))) := by
  rw [hq, ← Nat.pow_add]; congr 1; omega
theorem pow_no {a n m : Nat} (h : m ≤ n) (hf : fits (a ^ m) = false) : fits (a ^ n) = false := by
  rcases Nat.eq_zero_or_pos a with h0 | h0
  · subst h0
    have : (0 : Nat) ^ m ≤ 1 := by
      rcases Nat.eq_zero_or_pos m with h1 | h1
      · subst h1; simp
      · rw [Nat.zero_pow h1]; omega
    rw [fits_small _ this] at hf; cases hf
  · exact fits_mono (pow_le_of h0 h) hf
theorem pow_a {a n k q : Nat} (hq : q = a ^ (n / 2 ^ (k + 1))) (hf : fits (q * q) = false) : fits (a ^ n) = false := by
  rw [pow_sq hq] at hf
  exact pow_no (by have := half_step n k; have := Nat.div_le_self n (2 ^ k); omega) hf
theorem pow_b {a n k q : Nat} (hq : q = a ^ (n / 2 ^ (k + 1))) (ht : n / 2 ^ k % 2 = 0) (hf : fits (q * q) = true) : PowSt a n k true (q * q) := by
  refine ⟨?_, hf⟩
  rw [pow_sq hq]
  congr 1
  have := half_step n k; omega
theorem pow_mul {a n k q : Nat} (hq : q = a ^ (n / 2 ^ (k + 1))) (ht : n / 2 ^ k % 2 = 1) : q * q * a = a ^ (n / 2 ^ k) := by
  rw [pow_sq hq, ← Nat.pow_succ]
  congr 1
  have := half_step n k; omega
theorem pow_c {a n k q : Nat} (hq : q = a ^ (n / 2 ^ (k + 1))) (ht : n / 2 ^ k % 2 = 1) (hf : fits (q * q * a) = true) : PowSt a n k true (q * q * a) := ⟨pow_mul hq ht, hf⟩
theorem pow_d {a n k q : Nat} (hq : q = a ^ (n / 2 ^ (k + 1))) (ht : n / 2 ^ k % 2 = 1) (hf : fits (q * q * a) = false) : PowSt a n k false 0 := by
  refine ⟨rfl, ?_⟩
  rw [pow_mul hq ht] at hf
  exact pow_no (Nat.div_le_self _ _) hf
theorem pow_e {a n k q : Nat} (hq : q = a ^ (n / 2 ^ (k + 1))) (hf : fits (q * q) = false) : PowSt a n k false 0 := ⟨rfl, pow_a hq hf⟩
theorem pow_end {a n k q : Nat} {b : Bool} (h : PowSt a n k b q) (hk : b = true → k = 0) : q = prodM (a ^ n) ∧ b = fits (a ^ n) := by
  cases b
  · obtain ⟨h1, h2⟩ := h
    exact ⟨by rw [prodM_no h2, h1], h2.symm⟩
  · obtain ⟨h1, h2⟩ := h
    rw [hk rfl, Nat.pow_zero, Nat.div_one] at h1
    rw [h1] at h2
    exact ⟨by rw [prodM_yes h2, h1], h2.symm⟩

theorem pow_start (a n : Nat) (hn : n < 18446744073709551616) : PowSt a n (Lib.bitLen n) true 1 := by
  have h : n < 2 ^ Lib.bitLen n := by
    rcases Nat.eq_zero_or_pos n with h0 | h0
    · subst h0; exact Nat.pow_pos (by omega)
    · exact (Lib.bitLenAux_bounds 64 n hn (by omega)).2.2
  refine ⟨?_, fits_small 1 (by omega)⟩
  rw [Nat.div_eq_of_lt h, Nat.pow_zero]
theorem i64_and1 (n : Int) : bits .and .i64 n 1 = n % 2 := by
  have h1 : (BitVec.ofInt 64 1).toNat = 2 ^ 1 - 1 := by decide
  have key : (BitVec.ofInt 64 n &&& BitVec.ofInt 64 1).toNat = (n % ((2 ^ 64 : Nat) : Int)).toNat % 2 ^ 1 := by
    rw [BitVec.toNat_and, BitVec.toNat_ofInt, h1, Nat.and_two_pow_sub_one_eq_mod]
  show IntKind.i64.wrap ((BitVec.ofInt 64 n &&& BitVec.ofInt 64 1).toNat : Nat) = n % 2
  rw [key, IntKind.wrap_i64]
  omega
theorem and_bit (n j : Nat) (_hn : n ≤ 9223372036854775807) : bits .and .i64 ((n : Int) / 2 ^ j) 1 = ((n / 2 ^ j % 2 : Nat) : Int) := by
  rw [i64_and1]
  have e : (2 : Int) ^ j = ((2 ^ j : Nat) : Int) := by rw [Int.natCast_pow]; rfl
  rw [e, ← Int.natCast_ediv, Int.natCast_emod]
  rfl

/-- The post, under a name. -/
def bodyGoal (a n q : Nat) (bb : Bool) (w wr : World) : Prop := Ending.returned (.tuple #[.agg (mag (lm q)), .bool bb]) = Ending.returned (.tuple #[.agg (mag (lm (prodM (a ^ n)))), .bool (fits (a ^ n))]) ∧ Below w.heap.size w (wr.setRow (w.heap.size + 1) (mag (lm q)))
theorem bodyGoal_of {a n q : Nat} {bb : Bool} {w wr : World} (h1 : q = prodM (a ^ n)) (h2 : bb = fits (a ^ n)) (h3 : Below w.heap.size w (wr.setRow (w.heap.size + 1) (mag (lm q)))) : bodyGoal a n q bb w wr := ⟨by rw [← h1, ← h2], h3⟩
theorem mag1 : mag [1, 0, 0, 0, 0, 0, 0, 0] = #[.int .u64 1, .int .u64 0, .int .u64 0, .int .u64 0, .int .u64 0, .int .u64 0, .int .u64 0, .int .u64 0] := rfl
theorem one8 : lm 1 = [1, 0, 0, 0, 0, 0, 0, 0] := lm_small 1 (by omega)

set_option maxRecDepth 100000 in
set_option maxHeartbeats 4000000 in
theorem power_mag (a n : Nat) (w : World) (ha : a < 18446744073709551616 ^ 8) (hn : n ≤ 9223372036854775807) :
    Calls Tryd.prog 62 #[.agg (mag (lm a)), .int .i64 n] w fun e w' => e = .returned (.tuple #[.agg (mag (lm (prodM (a ^ n)))), .bool (fits (a ^ n))]) ∧ Below w.heap.size w w' := by
  have HA := Lib.hid ha
  clear ha
  obtain ⟨hv0, hv1, hv2, hbW, hsz⟩ := boxes3 w 56 56 56 (mag (lm a)) (mag [0, 0, 0, 0, 0, 0, 0, 0]) (mag (lm 1))
  have hx : Box _ _ _ (lm a) := hv0
  clear hv0
  rw [one8, mag1] at *
  rw [zero8] at *
  have hbl64 := Lib.bitLen_le n 64 (by omega) (by omega)
  go_enter Tryd.func62, Tryd.ntmps62
  go_wp2_with (go_at_call 79; refine (Tryd.bits_Len _ _ (by omega) (by omega)).mono ?_; rintro e w' ⟨rfl, rfl⟩)
  generalize ((w.alloc (.cells (mag (lm a)) 56)).alloc (.cells #[.int .u64 0, .int .u64 0, .int .u64 0, .int .u64 0, .int .u64 0, .int .u64 0, .int .u64 0, .int .u64 0] 56)).alloc (.cells #[.int .u64 1, .int .u64 0, .int .u64 0, .int .u64 0, .int .u64 0, .int .u64 0, .int .u64 0, .int .u64 0] 56) = W at *
  have hlt : w.heap.size + 2 < W.heap.size := by omega
  have hz : Box W (w.heap.size + 1) 56 [0, 0, 0, 0, 0, 0, 0, 0] := hv1
  have hp : Box W (w.heap.size + 2) 56 (lm 1) := by rw [one8]; exact hv2
  have HW := Lib.hid hbW
  have HST := Lib.hid (pow_start a n (by omega))
  clear hv1 hv2 hbW hsz
  generalize Lib.bitLen n = L at *
  go_loopw [7, 8] (fun b i wr => ∃ (k : Nat) (bb : Bool) (q : Nat), k ≤ L ∧ i = .int .i64 ((k : Int) - 1) ∧ b = .bool bb ∧ Hid (PowSt a n k bb q) ∧ Hid (q < 18446744073709551616 ^ 8) ∧
      Box wr (w.heap.size + 2) 56 (lm q) ∧ Box wr w.heap.size 56 (lm a) ∧ Box wr (w.heap.size + 1) 56 [0, 0, 0, 0, 0, 0, 0, 0] ∧ Below w.heap.size W wr) (fun _ i _ => (intOf i + 1).toNat)
  case atStart => exact ⟨L, true, 1, Nat.le_refl _, rfl, rfl, HST.out, Lib.hid (by decide), hp, hx, hz, Below.refl _ _⟩
  case round =>
    obtain ⟨k, bb, q, hk, rfl, rfl, hst, hqf, hp, hx, hz, hbl⟩ := hrel
    have HX := Lib.hid hx
    have HP := Lib.hid hp
    have HZ := Lib.hid hz
    have HB := Lib.hid hbl
    have hltr : w.heap.size + 2 < wr.heap.size := by have := hp.lt; omega
    clear hx hp hz hbl
    by_cases hgo : 0 < k ∧ bb = true
    · obtain ⟨h0, rfl⟩ := hgo
      obtain ⟨j, rfl⟩ : ∃ j, k = j + 1 := ⟨k - 1, by omega⟩
      have hq := hst.out.1
      have HQ := Lib.hid hq
      have ej : ((j + 1 : Nat) : Int) - 1 = j := by omega
      have j0 : (0 : Int) ≤ j := by omega
      have j64 : (j : Int) < 64 := by omega
      clear hq h0
      rw [ej]
      cases hf : fits (q * q)
      · have HE := Lib.hid (pow_e HQ.out hf)
        have HF := Lib.hid hf
        clear hf
        go_wp2_with (first | (refine ldm rfl _ rfl _ rfl _ HP.out (lm_len _) ?_))
        refine (multiply_mag q q _ hqf.out hqf.out).mono ?_
        rintro e w1 ⟨rfl, hb1⟩
        rw [prodM_no HF.out, HF.out]
        have hp1 := HP.out.below hb1 (by omega)
        go_wp2_with (first | (refine stm rfl _ _ rfl _ rfl _ _ rfl hp1 (lm_len _) (lm_len _) ?_))
        go_roundw
        case rel => exact ⟨j, false, 0, by omega, vi (by omega), rfl, HE.out, Lib.hid (by decide), hp1.setRow, (HX.out.below hb1 (by omega)).setRow_other (by omega), (HZ.out.below hb1 (by omega)).setRow_other (by omega), below_setRow (HB.out.trans (hb1.mono (by omega))) (by omega)⟩
        case measure => simp [intOf] <;> omega
      · have HF := Lib.hid hf
        clear hf
        have hq2 : Hid (q * q < 18446744073709551616 ^ 8) := (fits_iff _).1 HF.out
        rcases Nat.mod_two_eq_zero_or_one (n / 2 ^ j) with ht | ht
        · have HE := Lib.hid (pow_b HQ.out ht HF.out)
          have hbit := and_bit n j hn
          rw [ht] at hbit
          clear ht
          go_wp2_with (first | (refine ldm rfl _ rfl _ rfl _ HP.out (lm_len _) ?_))
          refine (multiply_mag q q _ hqf.out hqf.out).mono ?_
          rintro e w1 ⟨rfl, hb1⟩
          rw [prodM_yes HF.out, HF.out]
          have hp1 := HP.out.below hb1 (by omega)
          go_wp2_with (first | (refine stm rfl _ _ rfl _ rfl _ _ rfl hp1 (lm_len _) (lm_len _) ?_))
          go_roundw
          case rel => exact ⟨j, true, q * q, by omega, vi (by omega), rfl, HE.out, hq2, hp1.setRow, (HX.out.below hb1 (by omega)).setRow_other (by omega), (HZ.out.below hb1 (by omega)).setRow_other (by omega), below_setRow (HB.out.trans (hb1.mono (by omega))) (by omega)⟩
          case measure => simp [intOf] <;> omega
        · have HT := Lib.hid ht
          have hbit := and_bit n j hn
          rw [ht] at hbit
          clear ht
          go_wp2_with (first | (refine ldm rfl _ rfl _ rfl _ HP.out (lm_len _) ?_))
          refine (multiply_mag q q _ hqf.out hqf.out).mono ?_
          rintro e w1 ⟨rfl, hb1⟩
          rw [prodM_yes HF.out, HF.out]
          have hp1 := HP.out.below hb1 (by omega)
          have hx2 := (HX.out.below hb1 (by omega)).setRow_other (cs := mag (lm (q * q))) (g := w.heap.size + 2) (by omega)
          have hp2 := hp1.setRow (ys := lm (q * q))
          have hz2 := (HZ.out.below hb1 (by omega)).setRow_other (cs := mag (lm (q * q))) (g := w.heap.size + 2) (by omega)
          have hbl2 := below_setRow (g := w.heap.size + 2) (cs := mag (lm (q * q))) (HB.out.trans (hb1.mono (by omega))) (by omega)
          have hlt2 := hp2.lt
          have HBL2 := Lib.hid hbl2
          have HZ2 := Lib.hid hz2
          clear hbl2 hz2
          go_wp2_with (first | (refine stm rfl _ _ rfl _ rfl _ _ rfl hp1 (lm_len _) (lm_len _) ?_) | (refine ldm rfl _ rfl _ rfl _ hp2 (lm_len _) ?_) | (refine ldm rfl _ rfl _ rfl _ hx2 (lm_len _) ?_))
          generalize w1.setRow (w.heap.size + 2) (mag (lm (q * q))) = V at *
          refine (multiply_mag (q * q) a _ hq2.out HA.out).mono ?_
          rintro e w3 ⟨rfl, hb3⟩
          have hp3 := hp2.below hb3 hlt2
          cases hf3 : fits (q * q * a)
          · have HE := Lib.hid (pow_d HQ.out HT.out hf3)
            rw [prodM_no hf3]
            clear hf3
            go_wp2_with (first | (refine stm rfl _ _ rfl _ rfl _ _ rfl hp3 (lm_len _) (lm_len _) ?_))
            go_roundw
            case rel => exact ⟨j, false, 0, by omega, vi (by omega), rfl, HE.out, Lib.hid (by decide), hp3.setRow, (hx2.below hb3 (by omega)).setRow_other (by omega), (HZ2.out.below hb3 (by omega)).setRow_other (by omega), below_setRow (HBL2.out.trans (hb3.mono (by omega))) (by omega)⟩
            case measure => simp [intOf] <;> omega
          · have HE := Lib.hid (pow_c HQ.out HT.out hf3)
            have hq3 : Hid (q * q * a < 18446744073709551616 ^ 8) := (fits_iff _).1 hf3
            rw [prodM_yes hf3]
            clear hf3
            go_wp2_with (first | (refine stm rfl _ _ rfl _ rfl _ _ rfl hp3 (lm_len _) (lm_len _) ?_))
            go_roundw
            case rel => exact ⟨j, true, q * q * a, by omega, vi (by omega), rfl, HE.out, hq3, hp3.setRow, (hx2.below hb3 (by omega)).setRow_other (by omega), (HZ2.out.below hb3 (by omega)).setRow_other (by omega), below_setRow (HBL2.out.trans (hb3.mono (by omega))) (by omega)⟩
            case measure => simp [intOf] <;> omega
    · obtain ⟨e1, e2⟩ := pow_end hst.out (fun hb => by
        rcases Nat.eq_zero_or_pos k with h | h
        · exact h
        · exact absurd ⟨h, hb⟩ hgo)
      have HE1 := Lib.hid e1
      have HE2 := Lib.hid e2
      have HB2 := Lib.hid (below_setRow (g := w.heap.size + 1) (cs := mag (lm q)) (HW.out.trans (HB.out.mono (Nat.le_refl _))) (by omega))
      have hX : Hid (bodyGoal a n q bb w wr) := bodyGoal_of HE1.out HE2.out HB2.out
      clear e1 e2
      rcases Nat.eq_zero_or_pos k with h0 | h0
      · subst h0
        cases bb
        all_goals
          clear hgo
          go_wp2_with (first | (refine ldm rfl _ rfl _ rfl _ HP.out (lm_len _) ?_) | (refine stm rfl _ _ rfl _ rfl _ _ rfl HZ.out (lm_len _) rfl ?_))
          first | exact bodyPost_ret (res_mag_tmp rfl _ _ (w.heap.size + 1) (lm q) (.bool false) rfl rfl HZ.out.setRow (lm_len _)) rfl hX.out | exact bodyPost_ret (res_mag_tmp rfl _ _ (w.heap.size + 1) (lm q) (.bool true) rfl rfl HZ.out.setRow (lm_len _)) rfl hX.out
      · have hb : bb = false := by
          cases bb
          · rfl
          · exact absurd ⟨h0, rfl⟩ hgo
        subst hb
        clear hgo
        have hk0 : (0 : Int) ≤ (k : Int) - 1 := by omega
        go_wp2_with (first | (refine ldm rfl _ rfl _ rfl _ HP.out (lm_len _) ?_) | (refine stm rfl _ _ rfl _ rfl _ _ rfl HZ.out (lm_len _) rfl ?_))
        exact bodyPost_ret (res_mag_tmp rfl _ _ (w.heap.size + 1) (lm q) (.bool false) rfl rfl HZ.out.setRow (lm_len _)) rfl hX.out
end Go.Proofs.YtnkklmbmodkogaaDoor

/-! DivMath -/
namespace Go.Proofs.YtnkklmbmodkogaaDoor
open Go.RowKit

theorem div_lt_of {N y k : Nat} (hy : 0 < y) (h : N < k * y) : N / y < k := (Nat.div_lt_iff_lt_mul hy).2 h
theorem le_div_of {N y k : Nat} (hy : 0 < y) (h : k * y ≤ N) : k ≤ N / y := (Nat.le_div_iff_mul_le hy).2 h
/-- What is known of a guess for a digit: u is q times the upper half and a rest, and the guess is not too small. -/
def Guess (y y1 u d q r : Nat) : Prop := u = q * y1 + r ∧ (u * 4294967296 + d) / y ≤ q
theorem guess_eq {y y1 y0 u d q r : Nat} (hy : y = y1 * 4294967296 + y0) (h : u = q * y1 + r) : q * y + (r * 4294967296 + d) = u * 4294967296 + d + q * y0 := by
  subst hy h
  have e1 : q * (y1 * 4294967296 + y0) = q * y1 * 4294967296 + q * y0 := by rw [Nat.mul_add, Nat.mul_assoc]
  omega
theorem guess_start {y y1 y0 u d : Nat} (hy : y = y1 * 4294967296 + y0) (h1 : 0 < y1) (hd : d < 4294967296) : Guess y y1 u d (u / y1) (u % y1) := by
  refine ⟨by rw [Nat.mul_comm]; exact (Nat.div_add_mod u y1).symm, ?_⟩
  have e1 := Nat.div_add_mod u y1
  have e2 := Nat.mod_lt u h1
  have e3 : (u / y1 + 1) * y = (u / y1 + 1) * y1 * 4294967296 + (u / y1 + 1) * y0 := by rw [hy, Nat.mul_add, Nat.mul_assoc]
  have e4 : (u / y1 + 1) * y1 = y1 * (u / y1) + y1 := by rw [Nat.add_mul, Nat.mul_comm, Nat.one_mul]
  have : u * 4294967296 + d < (u / y1 + 1) * y := by rw [e3, e4]; omega
  have := div_lt_of (by omega) this
  omega
theorem digit_lt {y u d : Nat} (hu : u < y) (hd : d < 4294967296) : (u * 4294967296 + d) / y < 4294967296 :=
  div_lt_of (by omega) (by omega)
theorem lt_aux {X R qy qz : Nat} (e : qy + R = X + qz) (h : R < qz) : X < qy := by omega
/-- The test says that the guess is too large. -/
theorem guess_down {y y1 y0 u d q r : Nat} (hy : y = y1 * 4294967296 + y0) (h : Guess y y1 u d q r) (hu : u < y) (hd : d < 4294967296) (ht : 4294967296 ≤ q ∨ r * 4294967296 + d < q * y0) : 0 < q ∧ Guess y y1 u d (q - 1) (r + y1) := by
  obtain ⟨h1, h2⟩ := h
  have hlt := digit_lt hu hd
  have e := guess_eq (d := d) hy h1
  have hq : (u * 4294967296 + d) / y < q := by
    rcases ht with ht | ht
    · omega
    · exact div_lt_of (Nat.lt_of_le_of_lt (Nat.zero_le _) hu) (lt_aux e ht)
  refine ⟨Nat.lt_of_le_of_lt (Nat.zero_le _) hq, ?_, Nat.le_sub_one_of_lt hq⟩
  obtain ⟨k, rfl⟩ : ∃ k, q = k + 1 := ⟨q - 1, by have := Nat.lt_of_le_of_lt (Nat.zero_le _) hq; omega⟩
  rw [h1, Nat.add_sub_cancel, Nat.add_mul]
  omega
/-- The test says no: the guess is the digit. -/
theorem guess_ok {y y1 y0 u d q r : Nat} (hy : y = y1 * 4294967296 + y0) (h : Guess y y1 u d q r) (hp : 0 < y) (ht : q * y0 ≤ r * 4294967296 + d) : q = (u * 4294967296 + d) / y := by
  obtain ⟨h1, h2⟩ := h
  have e := guess_eq (d := d) hy h1
  have : q ≤ (u * 4294967296 + d) / y := le_div_of hp (by omega)
  omega
/-- The rest is at least 2^32: the guess is the digit. -/
theorem guess_break {y y1 y0 u d q r : Nat} (hy : y = y1 * 4294967296 + y0) (h : Guess y y1 u d q r) (_hp : 0 < y1) (h0 : y0 < 4294967296) (hu : u < y) (hr : 4294967296 ≤ r) : q = (u * 4294967296 + d) / y := by
  refine guess_ok hy h (by omega) ?_
  have hq : q < 4294967296 := by
    rcases Nat.lt_or_ge q 4294967296 with hl | hl
    · exact hl
    · have h1 := Nat.mul_le_mul_right y1 hl
      have h2 := h.1
      omega
  have : q * y0 ≤ 4294967295 * 4294967295 := Nat.mul_le_mul (by omega) (by omega)
  omega
/-- Bounds of a guess. -/
theorem guess_b {y y1 y0 u : Nat} (hy : y = y1 * 4294967296 + y0) (hn : 2147483648 ≤ y1) (h0 : y0 < 4294967296) (hu : u < y) : u / y1 < 4294967299 :=
  div_lt_of (by omega) (by omega)
theorem two_digits_aux {y u d1 d0 : Nat} (hy : 0 < y) (q r : Nat) (e1 : y * q + r = u * 4294967296 + d1) :
    q * 4294967296 + (r * 4294967296 + d0) / y = (u * 18446744073709551616 + (d1 * 4294967296 + d0)) / y ∧ (r * 4294967296 + d0) % y = (u * 18446744073709551616 + (d1 * 4294967296 + d0)) % y := by
  have e2 : u * 18446744073709551616 + (d1 * 4294967296 + d0) = y * (q * 4294967296) + (r * 4294967296 + d0) := by
    rw [← Nat.mul_assoc]
    omega
  rw [e2, Nat.mul_add_div hy, Nat.mul_add_mod]
  exact ⟨rfl, rfl⟩
/-- Two digits make the quotient. -/
theorem two_digits {y u d1 d0 : Nat} (hy : 0 < y) :
    (u * 4294967296 + d1) / y * 4294967296 + (((u * 4294967296 + d1) % y) * 4294967296 + d0) / y = (u * 18446744073709551616 + (d1 * 4294967296 + d0)) / y ∧
    (((u * 4294967296 + d1) % y) * 4294967296 + d0) % y = (u * 18446744073709551616 + (d1 * 4294967296 + d0)) % y := by
  exact two_digits_aux hy _ _ (Nat.div_add_mod (u * 4294967296 + d1) y)
theorem shift_aux (hi lo P Q W : Nat) (hW : W = P * Q) (_hQ : 0 < Q) : (hi * Q + lo / P) * W + lo * Q % W = (hi * W + lo) * Q := by
  subst hW
  rw [Nat.mul_mod_mul_right, Nat.add_mul, Nat.add_mul, Nat.add_assoc, ← Nat.mul_assoc (lo / P), ← Nat.add_mul, Nat.mul_comm (lo / P), Nat.div_add_mod, Nat.mul_assoc hi Q, Nat.mul_assoc hi, Nat.mul_comm Q]
theorem shift_lt {hi y Q : Nat} (hlt : hi < y) : hi * Q + Q ≤ y * Q := by
  have := Nat.mul_le_mul_right Q (show hi + 1 ≤ y from hlt)
  rwa [Nat.add_mul, Nat.one_mul] at this
/-- The shifted numbers. -/
theorem shifted {hi lo y s : Nat} (hs : s ≤ 63) (hy : y * 2 ^ s < 18446744073709551616) (hlt : hi < y) (hl : lo < 18446744073709551616) :
    hi * 2 ^ s + lo / 2 ^ (64 - s) < y * 2 ^ s ∧ (hi * 2 ^ s + lo / 2 ^ (64 - s)) * 18446744073709551616 + lo * 2 ^ s % 18446744073709551616 = (hi * 18446744073709551616 + lo) * 2 ^ s ∧ lo / 2 ^ (64 - s) < 2 ^ s ∧ hi * 2 ^ s < 18446744073709551616 := by
  have hP : 0 < 2 ^ s := Nat.two_pow_pos s
  have hW : (18446744073709551616 : Nat) = 2 ^ (64 - s) * 2 ^ s := by rw [← Nat.pow_add, show 64 - s + s = 64 from by omega]
  have h3 : lo / 2 ^ (64 - s) < 2 ^ s := Nat.div_lt_of_lt_mul (by rw [← hW]; exact hl)
  have h4 := shift_lt (Q := 2 ^ s) hlt
  have h5 := shift_aux hi lo _ _ _ hW hP
  exact ⟨by omega, h5, h3, by omega⟩
theorem unshift {N y s : Nat} (_hy : 0 < y) : N * 2 ^ s / (y * 2 ^ s) = N / y ∧ N * 2 ^ s % (y * 2 ^ s) / 2 ^ s = N % y := by
  have hP : 0 < 2 ^ s := Nat.two_pow_pos s
  exact ⟨Nat.mul_div_mul_right _ _ hP, by rw [Nat.mul_mod_mul_right, Nat.mul_div_cancel _ hP]⟩
end Go.Proofs.YtnkklmbmodkogaaDoor

/-! P1 -/
namespace Go.Proofs.YtnkklmbmodkogaaDoor
open Go.RowKit

theorem valid_int (x : Value) (z : Int) (w : World) (hx : IntIs w w.heap.size x z) (hz : blen z.natAbs ≤ 64) :
    Calls Tryd.prog 16 #[x] w fun e w' => e = .returned (.bool true) ∧ Below w.heap.size w w' := by
  obtain ⟨f, A, n, c, rfl, hx, hf, hn⟩ := hx.look
  obtain ⟨-, -, -, -, hb⟩ := hx.open_
  subst hf hn
  refine (nvalid_raw _ A _ c z.natAbs w.heap.size w hb (Nat.le_refl _)).mono ?_
  rintro e w' ⟨rfl, h⟩
  exact ⟨by rw [valid_of hz], h⟩
theorem abs_lt {z : Int} (hz : blen z.natAbs ≤ 64) : z.natAbs < 18446744073709551616 ^ 8 := by
  have h1 := blen_hi z.natAbs
  have h2 : 256 ^ blen z.natAbs ≤ 256 ^ 64 := Nat.pow_le_pow_right (by omega) hz
  have h3 : (256 : Nat) ^ 64 = 18446744073709551616 ^ 8 := by decide
  omega
theorem magOf_int {f : Bool} {A : Option Addr} {n c : Nat} (z : Int) (w : World) (hx : IntIs w w.heap.size (.agg #[.bool f, .slice A n c]) z) (hz : blen z.natAbs ≤ 64) :
    Calls Tryd.prog 42 #[.slice A n c] w fun e w' => e = .returned (.agg (mag (lm z.natAbs))) ∧ Below w.heap.size w w' := by
  obtain ⟨-, hn, -, -, hb⟩ := hx.open_
  subst hn
  exact magOf_any A _ c z.natAbs w.heap.size w hb (Nat.le_refl _) (blen_hi _) hz

def powZ (z : Int) (k : Nat) : Int := if fits (z.natAbs ^ k) then z ^ k else 0
def powE (z : Int) (k : Nat) : Int := if fits (z.natAbs ^ k) then 0 else 7
/-- The sign of a power. -/
def powS (z n : Int) : Bool := decide (z < 0) && (n % 2 == 1)
theorem pow_even (a : Int) (m : Nat) : (-a) ^ (2 * m) = a ^ (2 * m) := by rw [Int.pow_mul, Int.pow_mul]; congr 1; rw [Int.pow_succ, Int.pow_succ, Int.pow_zero, Int.pow_succ, Int.pow_succ, Int.pow_zero, Int.one_mul, Int.one_mul, Int.neg_mul_neg]
theorem sgn_pow (z n : Int) (h0 : 0 ≤ n) : sgn (powS z n) (z.natAbs ^ n.toNat) = z ^ n.toNat := by
  obtain ⟨m, rfl⟩ : ∃ m : Nat, n = m := ⟨n.toNat, by omega⟩
  simp only [Int.toNat_natCast]
  rcases Int.lt_or_le z 0 with hz | hz
  · obtain ⟨a, rfl⟩ : ∃ a : Nat, z = -(a : Int) := ⟨z.natAbs, by omega⟩
    have ha : (-(a : Int)).natAbs = a := by omega
    rw [ha]
    unfold powS sgn
    rw [decide_eq_true hz, Bool.true_and]
    rcases Nat.mod_two_eq_zero_or_one m with h | h
    · rw [show ((m : Int) % 2 == 1) = false from by simp; omega]
      obtain ⟨k, rfl⟩ : ∃ k, m = 2 * k := ⟨m / 2, by omega⟩
      rw [pow_even]; simp
    · rw [show ((m : Int) % 2 == 1) = true from by simp; omega]
      obtain ⟨k, rfl⟩ : ∃ k, m = 2 * k + 1 := ⟨m / 2, by omega⟩
      rw [Int.pow_succ, pow_even, Int.mul_neg, ← Int.pow_succ]; simp
  · obtain ⟨a, rfl⟩ : ∃ a : Nat, z = (a : Int) := ⟨z.natAbs, by omega⟩
    unfold powS sgn
    rw [decide_eq_false (by omega), Bool.false_and]; simp
theorem powRes (z : Int) (k : Nat) : (if fits (z.natAbs ^ k) then sgn (powS z k) (prodM (z.natAbs ^ k)) else 0) = powZ z k ∧ (if fits (z.natAbs ^ k) then (0 : Int) else 7) = powE z k := by
  have hs := sgn_pow z k (by omega)
  rw [Int.toNat_natCast] at hs
  refine ⟨?_, rfl⟩
  unfold powZ
  by_cases h : fits (z.natAbs ^ k) = true
  · rw [if_pos h, if_pos h, prodM_yes h, hs]
  · rw [if_neg h, if_neg h]
theorem prodM_lt (x : Nat) : prodM x < 18446744073709551616 ^ 8 := by
  by_cases h : fits x = true
  · rw [prodM_yes h]; exact (fits_iff x).1 h
  · rw [prodM_no (by simpa using h)]; exact Nat.pow_pos (by omega)

set_option maxRecDepth 100000 in
set_option maxHeartbeats 2000000 in
theorem power_int (x : Value) (z : Int) (n : Nat) (w : World) (hx : IntIs w w.heap.size x z) (hz : blen z.natAbs ≤ 64) (h1 : n ≤ 9223372036854775807) :
    Calls Tryd.prog 37 #[x, .int .i64 n] w (RetIntE w (powZ z n) (powE z n)) := by
  obtain ⟨f, A, m, c, rfl, hx, hf, hn⟩ := hx.look
  obtain ⟨hv0, hv1, hbW, hsz⟩ := boxes2 w 24 24 #[.bool f, .slice A m c] #[.bool false, .slice none 0 0]
  have HX := Lib.hid (hx.step hbW)
  have HZ := Lib.hid hz
  have HF := Lib.hid hf
  have HR := Lib.hid (powRes z n)
  have dn : decide ((n : Int) < 0) = false := by simp
  have H1 := Lib.hid h1
  clear h1
  clear hx hz hn hf
  go_enter Tryd.func37, Tryd.ntmps37
  go_wp2_with (fail)
  generalize (w.alloc (.cells #[.bool f, .slice A m c] 24)).alloc (.cells #[.bool false, .slice none 0 0] 24) = W at *
  have hlt0 : w.heap.size < W.heap.size := by omega
  have hlt1 : w.heap.size + 1 < W.heap.size := by omega
  refine (valid_int _ z W HX.out HZ.out).mono ?_
  rintro e w1 ⟨rfl, q1⟩
  have HX1 := Lib.hid (HX.out.step q1)
  have v0 := hv0.below q1 hlt0
  have s0 := v0.cell 0; have s1 := v0.cell 1
  simp only [List.getElem?_toArray, List.getElem?_cons_succ, List.getElem?_cons_zero] at s0 s1
  go_wp2_with (fail)
  refine (magOf_int z w1 HX1.out HZ.out).mono ?_
  rintro e w2 ⟨rfl, q2⟩
  go_wp2_with (fail)
  refine (power_mag z.natAbs n w2 (abs_lt HZ.out) H1.out).mono ?_
  rintro e w3 ⟨rfl, q3⟩
  have q13 := q1.trans ((q2.trans (q3.mono q2.size)).mono q1.size)
  have hs3 := q13.size
  have hz3 : Box (w3.alloc (.cells #[.int .u64 0, .int .u64 0, .int .u64 0, .int .u64 0, .int .u64 0, .int .u64 0, .int .u64 0, .int .u64 0] 56)) w3.heap.size 56 [0, 0, 0, 0, 0, 0, 0, 0] := heap_alloc_new w3 _
  have q4 := below_setRow (g := w3.heap.size) (cs := mag (lm (prodM (z.natAbs ^ n)))) (q13.trans ((below_alloc w3 (.cells #[.int .u64 0, .int .u64 0, .int .u64 0, .int .u64 0, .int .u64 0, .int .u64 0, .int .u64 0, .int .u64 0] 56)).mono hs3)) hs3
  have hp4 := Lib.hid (hz3.setRow (ys := lm (prodM (z.natAbs ^ n))))
  have v4 := hv0.below q4 hlt0
  have r4 := Lib.hid (hv1.below q4 hlt1)
  have u0 := v4.cell 0
  simp only [List.getElem?_toArray, List.getElem?_cons_zero] at u0
  have Q4 := Lib.hid q4
  have B0 := Lib.hid hbW
  have HZ3 := Lib.hid hz3
  clear hz3 q4 q13 v4 v0 s0 s1 hv0 hv1 hbW
  have HS : Hid (powS z n = (f && ((n : Int) % 2 == 1))) := Lib.hid (by rw [HF.out]; rfl)
  clear hx
  generalize hok : fits (z.natAbs ^ n) = ok at *
  generalize hpd : prodM (z.natAbs ^ n) = pd at *
  obtain ⟨a0, a1, a2, a3, a4, a5, a6, a7, he⟩ := list8 (lm_len pd)
  have hpl : Hid (pd < 18446744073709551616 ^ 8) := Lib.hid (by rw [← hpd]; exact prodM_lt _)
  have hp5 := (congrArg (Box _ _ _) he).mp hp4.out
  obtain ⟨k0, k1, k2, k3, k4, k5, k6, k7⟩ := box8 hp5
  have HE := Lib.hid he
  clear hp5 he hpd hok
  cases f
  · have E1 : (if ok = true then sgn (false) pd else 0) = powZ z n := by rw [← HR.out.1, HS.out]; first | rfl | rw [Bool.true_and] | rw [Bool.false_and]
    have E2 := HR.out.2
    have EE := Lib.hid (And.intro E1 E2)
    clear E1 E2
    go_wp2_with (first | (refine stm rfl _ _ rfl _ rfl _ _ rfl HZ3.out (lm_len _) rfl ?_))
    refine (checked_any _ pd ok _ _ hpl.out HE.out.symm).mono ?_
    rw [EE.out.1, EE.out.2]
    rintro e w5 ⟨⟨x1, rfl, hi⟩, hq⟩
    obtain ⟨f2, A2, n2, c2, rfl, hi3, hf2, hn2⟩ := hi.look
    clear hf2 hn2 hi
    have hl1 := Nat.lt_of_lt_of_le hlt1 Q4.out.size
    have hvr := r4.out.below hq hl1
    have s0 := hvr.cell 0; have s1 := hvr.cell 1; have t0 := hvr.free 0; have t1 := hvr.free 1
    simp only [List.getElem?_toArray, List.getElem?_cons_succ, List.getElem?_cons_zero] at s0 s1
    clear k0 k1 k2 k3 k4 k5 k6 k7
    generalize powE z n = er at *
    go_wp2_with (fail)
    have HXX := Lib.hid (retIntE_store (er := er) hi3 hvr ((B0.out.trans (Q4.out.mono (Nat.le_of_lt hlt0))).trans (hq.mono (by have := Q4.out.size; omega))) (Nat.le_succ _))
    exact bodyPost_ret (v := .tuple #[.agg #[.bool f2, .slice A2 n2 c2], .int .i64 er]) (by simp [results, Tryd.results37, go_sem, s0, s1]) rfl HXX.out
  · have E1 : (if ok = true then sgn ((n : Int) % 2 == 1) pd else 0) = powZ z n := by rw [← HR.out.1, HS.out]; first | rfl | rw [Bool.true_and] | rw [Bool.false_and]
    have E2 := HR.out.2
    have EE := Lib.hid (And.intro E1 E2)
    clear E1 E2
    go_wp2_with (first | (refine stm rfl _ _ rfl _ rfl _ _ rfl HZ3.out (lm_len _) rfl ?_))
    refine (checked_any _ pd ok _ _ hpl.out HE.out.symm).mono ?_
    rw [EE.out.1, EE.out.2]
    rintro e w5 ⟨⟨x1, rfl, hi⟩, hq⟩
    obtain ⟨f2, A2, n2, c2, rfl, hi3, hf2, hn2⟩ := hi.look
    clear hf2 hn2 hi
    have hl1 := Nat.lt_of_lt_of_le hlt1 Q4.out.size
    have hvr := r4.out.below hq hl1
    have s0 := hvr.cell 0; have s1 := hvr.cell 1; have t0 := hvr.free 0; have t1 := hvr.free 1
    simp only [List.getElem?_toArray, List.getElem?_cons_succ, List.getElem?_cons_zero] at s0 s1
    clear k0 k1 k2 k3 k4 k5 k6 k7
    generalize powE z n = er at *
    go_wp2_with (fail)
    have HXX := Lib.hid (retIntE_store (er := er) hi3 hvr ((B0.out.trans (Q4.out.mono (Nat.le_of_lt hlt0))).trans (hq.mono (by have := Q4.out.size; omega))) (Nat.le_succ _))
    exact bodyPost_ret (v := .tuple #[.agg #[.bool f2, .slice A2 n2 c2], .int .i64 er]) (by simp [results, Tryd.results37, go_sem, s0, s1]) rfl HXX.out
end Go.Proofs.YtnkklmbmodkogaaDoor
