/- The reference's Plus. The reference's Minus. The reference's Times. The reference's Make. The reference's natural numbers and Ints, as values: contracts that name no list. -/
import Derived.Test.YtnkklmbmodkogaaDoorG1
import Derived.Deep.RegionLaw
import Derived.RegionTactic
import Derived.Deep.RegionHeld3
/-! R3 -/
namespace Go.Proofs.YtnkklmbmodkogaaDoor
open Go.RowKit

/-- The loop's relation. -/
def PlusRel (u v B : Nat) (w : World) (K : Nat) (x c i : Value) (wr : World) : Prop :=
  ∃ k : Nat, k ≤ K ∧ i = .int .i64 k ∧ c = .int .i64 (car u v k) ∧ Own wr B x (le (u + v) k) ∧ Below B w wr

set_option maxHeartbeats 1000000 in
theorem plus_any (A A' : Option Addr) (n m c c' u v B : Nat) (w : World) (hr : Bys w B A (le u n)) (hr' : Bys w B A' (le v m)) (hB : B ≤ w.heap.size) (hu : u < 256 ^ n) (hv : v < 256 ^ m) (hn1 : n < 1000000) (hm1 : m < 1000000) :
    Calls Tryd.prog 53 #[.slice A n c, .slice A' m c'] w (RetOwn w (le (u + v) (blen (u + v)))) := by
  go_enter Tryd.func53, Tryd.ntmps53
  go_wp2
  go_loopw [5, 6, 7] (fun x c i wr => ∃ k : Nat, k ≤ n + m + 1 ∧ i = .int .i64 k ∧ c = .int .i64 (car u v k) ∧ Own wr w.heap.size x (le (u + v) k) ∧ Below w.heap.size w wr) (fun _ _ i _ => n + m + 1 - (intOf i).toNat)
  case atStart => exact ⟨0, Nat.zero_le _, rfl, by rw [car_zero], by simpa [le] using Own.nil_, Below.refl _ _⟩
  case round =>
    obtain ⟨k, hk, rfl, rfl, hown, hbl⟩ := hrel
    have hsz := hbl.size
    have hcb := car_b u v k
    obtain ⟨hc0, hc1⟩ := hcb
    have hub := byt_b u k
    have hvb := byt_b v k
    have hst := Lib.hid (plus_step u v k)
    have hle := Lib.hid (le_succ (u + v) k)
    have HB := Lib.hid hbl
    have HO := Lib.hid hown
    have HR := Lib.hid (hr.below' hbl hB)
    have HR' := Lib.hid (hr'.below' hbl hB)
    have hlast : n + m + 1 ≤ k → car u v k = 0 := fun h => car_last hu hv (by omega) (by omega)
    have hza : n ≤ k → byt u k = 0 := fun h => byt_zero u k (Nat.lt_of_lt_of_le hu (Nat.pow_le_pow_right (by omega) h))
    have hzb : m ≤ k → byt v k = 0 := fun h => byt_zero v k (Nat.lt_of_lt_of_le hv (Nat.pow_le_pow_right (by omega) h))
    clear hown hbl
    by_cases g1 : k < n
    · obtain ⟨b, o, rfl, hbB, hcell⟩ := HR.out (by simpa using (by omega))
      have hcl : wr.cell? ⟨b, o + k, none⟩ = some (.int .u8 (byt u k)) := by
        rw [hcell k (by simpa using g1), le_get u n k g1]
      clear hcell
      by_cases g2 : k < m
      · obtain ⟨b', o', rfl, hbB', hcell'⟩ := HR'.out (by simpa using (by omega))
        have hcl' : wr.cell? ⟨b', o' + k, none⟩ = some (.int .u8 (byt v k)) := by
          rw [hcell' k (by simpa using g2), le_get v m k g2]
        clear hcell'
        have e1 := Lib.hid (show (car u v k + byt u k + byt v k) % 256 = byt (u + v) k by have h1 := hst.out.1;  omega)
        have e2 := Lib.hid (show (car u v k + byt u k + byt v k) / 256 = car u v (k + 1) by have h1 := hst.out.2;  omega)
        have hk2 : k ≤ n + m := by
          rcases Nat.lt_or_ge (n + m) k with h | h
          · have := hlast h; omega
          · exact h
        clear hlast hza hzb
        go_wp2_with (at_builtin; refine app1 rfl _ _ _ rfl Tryd.underlying62 rfl (HO.out.alloc _) (HB.out.alloc (by assumption) _) ?c1 wr.heap.size ((car u v k + byt u k + byt v k) % 256) rfl ?c2 ?c3 ?_)
        case c1 => simp; omega
        case c2 => rw [World.cell?_alloc_at _ _ _ _ rfl]; rfl
        case c3 => simp; omega
        intro x' w1 hown1 hbl1
        rw [e1.out, ← hle.out] at hown1
        go_wp2
        go_roundw
        case rel => exact ⟨k + 1, by omega, by go_num, vi e2.out, hown1, hbl1⟩
        case measure => simp [intOf]; omega
      · have e1 := Lib.hid (show (car u v k + byt u k) % 256 = byt (u + v) k by have h1 := hst.out.1; have h2 := hzb (by omega); omega)
        have e2 := Lib.hid (show (car u v k + byt u k) / 256 = car u v (k + 1) by have h1 := hst.out.2; have h2 := hzb (by omega); omega)
        have hk2 : k ≤ n + m := by
          rcases Nat.lt_or_ge (n + m) k with h | h
          · have := hlast h; omega
          · exact h
        clear hlast hza hzb
        go_wp2_with (at_builtin; refine app1 rfl _ _ _ rfl Tryd.underlying62 rfl (HO.out.alloc _) (HB.out.alloc (by assumption) _) ?c1 wr.heap.size ((car u v k + byt u k) % 256) rfl ?c2 ?c3 ?_)
        case c1 => simp; omega
        case c2 => rw [World.cell?_alloc_at _ _ _ _ rfl]; rfl
        case c3 => simp; omega
        intro x' w1 hown1 hbl1
        rw [e1.out, ← hle.out] at hown1
        go_wp2
        go_roundw
        case rel => exact ⟨k + 1, by omega, by go_num, vi e2.out, hown1, hbl1⟩
        case measure => simp [intOf]; omega
    · by_cases g2 : k < m
      · obtain ⟨b', o', rfl, hbB', hcell'⟩ := HR'.out (by simpa using (by omega))
        have hcl' : wr.cell? ⟨b', o' + k, none⟩ = some (.int .u8 (byt v k)) := by
          rw [hcell' k (by simpa using g2), le_get v m k g2]
        clear hcell'
        have e1 := Lib.hid (show (car u v k + byt v k) % 256 = byt (u + v) k by have h1 := hst.out.1; have h2 := hza (by omega); omega)
        have e2 := Lib.hid (show (car u v k + byt v k) / 256 = car u v (k + 1) by have h1 := hst.out.2; have h2 := hza (by omega); omega)
        have hk2 : k ≤ n + m := by
          rcases Nat.lt_or_ge (n + m) k with h | h
          · have := hlast h; omega
          · exact h
        clear hlast hza hzb
        go_wp2_with (at_builtin; refine app1 rfl _ _ _ rfl Tryd.underlying62 rfl (HO.out.alloc _) (HB.out.alloc (by assumption) _) ?c1 wr.heap.size ((car u v k + byt v k) % 256) rfl ?c2 ?c3 ?_)
        case c1 => simp; omega
        case c2 => rw [World.cell?_alloc_at _ _ _ _ rfl]; rfl
        case c3 => simp; omega
        intro x' w1 hown1 hbl1
        rw [e1.out, ← hle.out] at hown1
        go_wp2
        go_roundw
        case rel => exact ⟨k + 1, by omega, by go_num, vi e2.out, hown1, hbl1⟩
        case measure => simp [intOf]; omega
      · by_cases g3 : 0 < car u v k
        · have e1 := Lib.hid (show (car u v k) % 256 = byt (u + v) k by have h1 := hst.out.1; have h2 := hza (by omega); have h3 := hzb (by omega); omega)
          have e2 := Lib.hid (show (car u v k) / 256 = car u v (k + 1) by have h1 := hst.out.2; have h2 := hza (by omega); have h3 := hzb (by omega); omega)
          have hk2 : k ≤ n + m := by
            rcases Nat.lt_or_ge (n + m) k with h | h
            · have := hlast h; omega
            · exact h
          clear hlast hza hzb
          go_wp2_with (at_builtin; refine app1 rfl _ _ _ rfl Tryd.underlying62 rfl (HO.out.alloc _) (HB.out.alloc (by assumption) _) ?c1 wr.heap.size ((car u v k) % 256) rfl ?c2 ?c3 ?_)
          case c1 => simp; omega
          case c2 => rw [World.cell?_alloc_at _ _ _ _ rfl]; rfl
          case c3 => simp; omega
          intro x' w1 hown1 hbl1
          rw [e1.out, ← hle.out] at hown1
          go_wp2
          go_roundw
          case rel => exact ⟨k + 1, by omega, by go_num, vi e2.out, hown1, hbl1⟩
          case measure => simp [intOf]; omega
        · have hz : car u v k = 0 := by omega
          have hend := car_end hu hv (by omega) (by omega) hz
          have HE := Lib.hid hend
          clear hlast hza hzb hend hz
          obtain ⟨A1, c1, hx, q1, q2, q3⟩ := HO.out.form
          simp only [le_len] at hx q1
          subst hx
          have HX := Lib.hid (show RetOwn w (le (u + v) (blen (u + v))) (Ending.returned (.slice A1 (blen (u + v)) c1)) wr from
            ⟨⟨_, rfl, by have := HO.out.take (m := blen (u + v)) (by simp) (by simpa using blen_le HE.out); rwa [le_take _ _ _ (blen_le HE.out)] at this⟩, HB.out⟩)
          go_wp2_with fail
          refine (trim_any A1 k c1 (u + v) wr.heap.size wr q3 HE.out q1 q2).mono ?_
          rintro e w' ⟨rfl, rfl⟩
          go_wp2
          go_ret
          exact HX.out
end Go.Proofs.YtnkklmbmodkogaaDoor

/-! R4 -/
namespace Go.Proofs.YtnkklmbmodkogaaDoor
open Go.RowKit

set_option maxHeartbeats 1000000 in
theorem minus_any (A A' : Option Addr) (n m c c' u v B : Nat) (w : World) (hr : Bys w B A (le u n)) (hr' : Bys w B A' (le v m)) (hB : B ≤ w.heap.size) (hu : u < 256 ^ n) (hv : v < 256 ^ m) (hvu : v ≤ u) (hn1 : n < 1000000) (hm1 : m < 1000000) :
    Calls Tryd.prog 54 #[.slice A n c, .slice A' m c'] w (RetOwn w (le (u - v) (blen (u - v)))) := by
  go_enter Tryd.func54, Tryd.ntmps54
  go_wp2
  go_loopw [5, 6, 7] (fun x c i wr => ∃ k : Nat, k ≤ n ∧ i = .int .i64 k ∧ c = .int .i64 (bo u v k) ∧ Own wr w.heap.size x (le (u - v) k) ∧ Below w.heap.size w wr) (fun _ _ i _ => n - (intOf i).toNat)
  case atStart => exact ⟨0, Nat.zero_le _, rfl, by simp [bo, borN_zero], by simpa [le] using Own.nil_, Below.refl _ _⟩
  case round =>
    obtain ⟨k, hk, rfl, rfl, hown, hbl⟩ := hrel
    have hsz := hbl.size
    obtain ⟨hc0, hc1⟩ := bo_b u v k
    have hub := byt_b u k
    have hvb := byt_b v k
    obtain ⟨hst1, hst2⟩ := minus_step u v k hvu
    have hle := Lib.hid (le_succ (u - v) k)
    have HB := Lib.hid hbl
    have HO := Lib.hid hown
    have HR := Lib.hid (hr.below' hbl hB)
    have HR' := Lib.hid (hr'.below' hbl hB)
    have hzb : m ≤ k → byt v k = 0 := fun h => byt_zero v k (Nat.lt_of_lt_of_le hv (Nat.pow_le_pow_right (by omega) h))
    clear hown hbl
    by_cases g1 : k < n
    · obtain ⟨b, o, rfl, hbB, hcell⟩ := HR.out (by simpa using (by omega))
      have hcl : wr.cell? ⟨b, o + k, none⟩ = some (.int .u8 (byt u k)) := by
        rw [hcell k (by simpa using g1), le_get u n k g1]
      clear hcell
      by_cases g2 : k < m
      · obtain ⟨b', o', rfl, hbB', hcell'⟩ := HR'.out (by simpa using (by omega))
        have hcl' : wr.cell? ⟨b', o' + k, none⟩ = some (.int .u8 (byt v k)) := by
          rw [hcell' k (by simpa using g2), le_get v m k g2]
        clear hcell'
        by_cases g3 : byt u k - bo u v k - byt v k < 0
        · have g4 : byt u k - bo u v k < byt v k := by omega
          have e1 := Lib.hid (show byt u k - bo u v k - byt v k + 256 = byt (u - v) k by  have h1 := (hst1 (by omega)).1; omega)
          have e2 := Lib.hid (show 1 = bo u v (k + 1) by  have h1 := (hst1 (by omega)).2; omega)
          have b1 : 0 ≤ byt u k - bo u v k - byt v k + 256 := by have := (byt_b (u - v) k).1; have := e1.out; omega
          have b2 : byt u k - bo u v k - byt v k + 256 < 256 := by have := (byt_b (u - v) k).2; have := e1.out; omega
          clear hzb hst1 hst2
          go_wp2_with (at_builtin; refine app1 rfl _ _ _ rfl Tryd.underlying62 rfl (HO.out.alloc _) (HB.out.alloc (by assumption) _) ?c1 wr.heap.size (byt u k - bo u v k - byt v k + 256) rfl ?c2 ?c3 ?_)
          case c1 => simp; omega
          case c2 => rw [World.cell?_alloc_at _ _ _ _ rfl]; rfl
          case c3 => simp; omega
          intro x' w1 hown1 hbl1
          rw [e1.out, ← hle.out] at hown1
          go_wp2
          go_roundw
          case rel => exact ⟨k + 1, by omega, by go_num, vi e2.out, hown1, hbl1⟩
          case measure => simp [intOf]; omega
        · have g4 : byt v k ≤ byt u k - bo u v k := by omega
          have e1 := Lib.hid (show byt u k - bo u v k - byt v k = byt (u - v) k by  have h1 := (hst2 (by omega)).1; omega)
          have e2 := Lib.hid (show 0 = bo u v (k + 1) by  have h1 := (hst2 (by omega)).2; omega)
          have b1 : 0 ≤ byt u k - bo u v k - byt v k := by have := (byt_b (u - v) k).1; have := e1.out; omega
          have b2 : byt u k - bo u v k - byt v k < 256 := by have := (byt_b (u - v) k).2; have := e1.out; omega
          clear hzb hst1 hst2 g3
          go_wp2_with (at_builtin; refine app1 rfl _ _ _ rfl Tryd.underlying62 rfl (HO.out.alloc _) (HB.out.alloc (by assumption) _) ?c1 wr.heap.size (byt u k - bo u v k - byt v k) rfl ?c2 ?c3 ?_)
          case c1 => simp; omega
          case c2 => rw [World.cell?_alloc_at _ _ _ _ rfl]; rfl
          case c3 => simp; omega
          intro x' w1 hown1 hbl1
          rw [e1.out, ← hle.out] at hown1
          go_wp2
          go_roundw
          case rel => exact ⟨k + 1, by omega, by go_num, vi e2.out, hown1, hbl1⟩
          case measure => simp [intOf]; omega
      · by_cases g3 : byt u k - bo u v k < 0
        · have g4 : byt u k < bo u v k := by omega
          have e1 := Lib.hid (show byt u k - bo u v k + 256 = byt (u - v) k by have h2 := hzb (by omega); have h1 := (hst1 (by omega)).1; omega)
          have e2 := Lib.hid (show 1 = bo u v (k + 1) by have h2 := hzb (by omega); have h1 := (hst1 (by omega)).2; omega)
          have b1 : 0 ≤ byt u k - bo u v k + 256 := by have := (byt_b (u - v) k).1; have := e1.out; omega
          have b2 : byt u k - bo u v k + 256 < 256 := by have := (byt_b (u - v) k).2; have := e1.out; omega
          clear hzb hst1 hst2
          go_wp2_with (at_builtin; refine app1 rfl _ _ _ rfl Tryd.underlying62 rfl (HO.out.alloc _) (HB.out.alloc (by assumption) _) ?c1 wr.heap.size (byt u k - bo u v k + 256) rfl ?c2 ?c3 ?_)
          case c1 => simp; omega
          case c2 => rw [World.cell?_alloc_at _ _ _ _ rfl]; rfl
          case c3 => simp; omega
          intro x' w1 hown1 hbl1
          rw [e1.out, ← hle.out] at hown1
          go_wp2
          go_roundw
          case rel => exact ⟨k + 1, by omega, by go_num, vi e2.out, hown1, hbl1⟩
          case measure => simp [intOf]; omega
        · have g4 : bo u v k ≤ byt u k := by omega
          have e1 := Lib.hid (show byt u k - bo u v k = byt (u - v) k by have h2 := hzb (by omega); have h1 := (hst2 (by omega)).1; omega)
          have e2 := Lib.hid (show 0 = bo u v (k + 1) by have h2 := hzb (by omega); have h1 := (hst2 (by omega)).2; omega)
          have b1 : 0 ≤ byt u k - bo u v k := by have := (byt_b (u - v) k).1; have := e1.out; omega
          have b2 : byt u k - bo u v k < 256 := by have := (byt_b (u - v) k).2; have := e1.out; omega
          clear hzb hst1 hst2 g3
          go_wp2_with (at_builtin; refine app1 rfl _ _ _ rfl Tryd.underlying62 rfl (HO.out.alloc _) (HB.out.alloc (by assumption) _) ?c1 wr.heap.size (byt u k - bo u v k) rfl ?c2 ?c3 ?_)
          case c1 => simp; omega
          case c2 => rw [World.cell?_alloc_at _ _ _ _ rfl]; rfl
          case c3 => simp; omega
          intro x' w1 hown1 hbl1
          rw [e1.out, ← hle.out] at hown1
          go_wp2
          go_roundw
          case rel => exact ⟨k + 1, by omega, by go_num, vi e2.out, hown1, hbl1⟩
          case measure => simp [intOf]; omega
    · obtain rfl : k = n := by omega
      have HE := Lib.hid (Nat.lt_of_le_of_lt (Nat.sub_le u v) hu)
      clear hzb hst1 hst2
      obtain ⟨A1, c1, hx, q1, q2, q3⟩ := HO.out.form
      simp only [le_len] at hx q1
      subst hx
      have HX := Lib.hid (show RetOwn w (le (u - v) (blen (u - v))) (Ending.returned (.slice A1 (blen (u - v)) c1)) wr from
        ⟨⟨_, rfl, by have := HO.out.take (m := blen (u - v)) (by simp) (by simpa using blen_le HE.out); rwa [le_take _ _ _ (blen_le HE.out)] at this⟩, HB.out⟩)
      go_wp2_with fail
      refine (trim_any A1 k c1 (u - v) wr.heap.size wr q3 HE.out q1 q2).mono ?_
      rintro e w' ⟨rfl, rfl⟩
      go_wp2
      go_ret
      exact HX.out
end Go.Proofs.YtnkklmbmodkogaaDoor

/-! R5 -/
namespace Go.Proofs.YtnkklmbmodkogaaDoor
open Go.RowKit

theorem prod_b (u i v k : Nat) : 0 ≤ byt u i * byt v k ∧ byt u i * byt v k ≤ 65025 := by
  have a := byt_b u i; have b := byt_b v k
  exact ⟨Int.mul_nonneg a.1 b.1, Int.le_trans (Int.mul_le_mul (show byt u i ≤ 255 by omega) (show byt v k ≤ 255 by omega) b.1 (by omega)) (by omega)⟩
/-- The step over Int. -/
theorem times_int {u v i k X c : Nat} (s : Int) (hs : s = byt X (i + k) + byt u i * byt v k + c) :
    s % 256 = (((X / 256 ^ (i + k) % 256 + u / 256 ^ i % 256 * (v / 256 ^ k % 256) + c) % 256 : Nat) : Int) ∧ s / 256 = (((X / 256 ^ (i + k) % 256 + u / 256 ^ i % 256 * (v / 256 ^ k % 256) + c) / 256 : Nat) : Int) := by
  have e : s = ((X / 256 ^ (i + k) % 256 + u / 256 ^ i % 256 * (v / 256 ^ k % 256) + c : Nat) : Int) := by
    rw [hs]; unfold byt; rw [Int.natCast_add, Int.natCast_add, Int.natCast_mul]
  rw [e]
  exact ⟨by rw [Int.natCast_emod]; rfl, by rw [Int.natCast_ediv]; rfl⟩

theorem times_c (x y z C : Nat) (hC : C ≤ 255) : (x % 256 + y % 256 * (z % 256) + C) / 256 ≤ 255 := by
  have : y % 256 * (z % 256) ≤ 255 * 255 := Nat.mul_le_mul (by omega) (by omega)
  omega

set_option maxHeartbeats 1000000 in
theorem times_any (A A' : Option Addr) (n m c c' u v B : Nat) (w : World) (hr : Bys w B A (le u n)) (hr' : Bys w B A' (le v m)) (hB : B ≤ w.heap.size) (hu : u < 256 ^ n) (hv : v < 256 ^ m) (hn1 : n < 1000000) (hm1 : m < 1000000) :
    Calls Tryd.prog 55 #[.slice A n c, .slice A' m c'] w (RetOwn w (le (u * v) (blen (u * v)))) := by
  go_enter Tryd.func55, Tryd.ntmps55
  go_wp2_with (refine make1 rfl _ _ _ rfl Tryd.underlying62 (n + m) _ _ rfl rfl ?c1 ?c2 ?c3 (Below.refl _ _) (Nat.le_refl _) ?_)
  case c1 => simp
  case c2 => simp
  case c3 => omega
  intro w1 hown0 hbl0 hsz0
  rw [← le_zero] at hown0
  have HR := hr.below' hbl0 hB
  have HR' := hr'.below' hbl0 hB
  clear hr hr'
  have HB0 := Lib.hid hbl0
  clear hbl0
  go_wp2
  generalize hg : w.heap.size = g at *
  have Hg := Lib.hid hg
  clear hg
  go_loopw [6] (fun i wr => ∃ k : Nat, k ≤ n ∧ i = .int .i64 k ∧ Own wr g (.slice (some ⟨g, 0, none⟩) (n + m) (n + m)) (le (u % 256 ^ k * v) (n + m)) ∧ Below g w1 wr) (fun i _ => n - (intOf i).toNat)
  case atStart => exact ⟨0, Nat.zero_le _, rfl, by simpa [Nat.mod_one] using hown0, Below.refl _ _⟩
  case round =>
    obtain ⟨i, hi, rfl, hown, hbl⟩ := hrel
    by_cases g1 : i < n
    · have HO := Lib.hid hown
      have HB := Lib.hid hbl
      have hrow := Lib.hid (times_row_bound (u := u) (i := i) hv)
      clear hown hbl
      go_wp2
      obtain ⟨wo, rfl⟩ : ∃ wo : World, wo = wr := ⟨_, rfl⟩
      go_loopw [7, 8, 9] (fun c k s wr => ∃ k0 X C : Nat, k0 ≤ m ∧ k = .int .i64 k0 ∧ c = .int .i64 C ∧ TimesInv u v i k0 X C ∧ X < 256 ^ (i + m) ∧ C ≤ 255 ∧ Own wr g (.slice (some ⟨g, 0, none⟩) (n + m) (n + m)) (le X (n + m)) ∧ Below g w1 wr) (fun _ k _ _ => m - (intOf k).toNat)
      case atStart => exact ⟨0, _, 0, Nat.zero_le _, rfl, rfl, times_first u v i, hrow.out, by omega, HO.out, HB.out⟩
      case round =>
        obtain ⟨k, X, C, hk, rfl, rfl, hinv, hX, hC, hown, hbl⟩ := hrel
        have hrr := HR.below' hbl (by omega)
        have hrr' := HR'.below' hbl (by omega)
        by_cases g2 : k < m
        · obtain ⟨b, o, rfl, hbB, hcell⟩ := hrr (by simpa using (by omega))
          obtain ⟨b', o', rfl, hbB', hcell'⟩ := hrr' (by simpa using (by omega))
          have hc1 : wr.cell? ⟨b, o + i, none⟩ = some (.int .u8 (byt u i)) := by
            rw [hcell i (by simpa using g1), le_get u n i g1]
          have hc2 : wr.cell? ⟨b', o' + k, none⟩ = some (.int .u8 (byt v k)) := by
            rw [hcell' k (by simpa using g2), le_get v m k g2]
          have hc3 : wr.cell? ⟨g, i + k, none⟩ = some (.int .u8 (byt X (i + k))) := by
            rw [hown.cellAt (j := i + k) (by simp; omega), le_get X _ _ (by omega)]
          have hfz := hown.freeAt (i + k)
          have hs := times_int (u := u) (v := v) (i := i) (k := k) (X := X) (c := C) (byt X (i + k) + byt u i * byt v k + C) rfl
          have hse : (le X (n + m)).set (i + k) ((byt X (i + k) + byt u i * byt v k + C) % 256) = _ := (congrArg _ hs.1).trans (le_set X (n + m) (i + k) _ (Nat.mod_lt _ (by omega)))
          have hO1 := hown.set_ (j := i + k) ((byt X (i + k) + byt u i * byt v k + C) % 256)
          rw [hse] at hO1
          have hHO := Lib.hid hO1
          have hHB := Lib.hid (hbl.setCell (p := ⟨g, i + k, none⟩) (Nat.le_refl _) (.int .u8 ((byt X (i + k) + byt u i * byt v k + C) % 256)))
          have hI := Lib.hid (times_step hinv)
          have hS := Lib.hid hs.2
          have hlt := Lib.hid (hole_lt (y := (X / 256 ^ (i + k) % 256 + u / 256 ^ i % 256 * (v / 256 ^ k % 256) + C) % 256) hX (show i + k < i + m by omega) (Nat.mod_lt _ (by omega)))
          have hpb := prod_b u i v k
          obtain ⟨p0, p1⟩ := hpb
          have hxb := byt_b X (i + k)
          have hub := byt_b u i
          have hvb := byt_b v k
          clear hcell hcell' hrr hrr' hinv hown hbl hX HR HR' hs hse hO1
          go_wp2
          go_quiet (fail)
          go_wp2
          go_roundw
          case rel => exact ⟨k + 1, _, _, by omega, by go_num, vi hS.out, hI.out, hlt.out, times_c _ _ _ _ hC, hHO.out.drewN _, below_drewN hHB.out _⟩
          case measure => simp [intOf]; omega
        · obtain rfl : k = m := by omega
          have hX0 : X / 256 ^ (i + k) % 256 = 0 := by rw [Nat.div_eq_of_lt hX]
          have hcb : C < 256 := by omega
          have hO1 := hown.set_ (j := i + k) (C : Int)
          rw [le_set X (n + k) (i + k) C hcb, hole_small hX, times_last hinv hv] at hO1
          have hHO := Lib.hid hO1
          have hHB := Lib.hid (hbl.setCell (p := ⟨g, i + k, none⟩) (Nat.le_refl _) (.int .u8 (C : Int)))
          have hfz := hown.freeAt (i + k)
          have hc3 : wr.cell? ⟨g, i + k, none⟩ = some (.int .u8 (byt X (i + k))) := by
            rw [hown.cellAt (j := i + k) (by simp; omega), le_get X _ _ (by omega)]
          clear hrr hrr' hinv hown hbl hX HR HR' hO1 hX0
          go_wp2
          go_roundw
          case rel => exact ⟨i + 1, by omega, by go_num, hHO.out, hHB.out⟩
          case measure => simp [intOf]; omega
    · obtain rfl : i = n := by omega
      rw [Nat.mod_eq_of_lt hu] at hown
      have huv : u * v < 256 ^ (i + m) := by have := times_row_bound (u := u) (i := i) hv; rwa [Nat.mod_eq_of_lt hu] at this
      have HE := Lib.hid huv
      clear huv
      obtain ⟨A1, c1, hx, q1, q2, q3⟩ := hown.form
      simp only [le_len, Value.slice.injEq, true_and] at hx q1
      obtain ⟨rfl, rfl⟩ := hx
      have HX := Lib.hid (show RetOwn w (le (u * v) (blen (u * v))) (Ending.returned (.slice (some ⟨g, 0, none⟩) (blen (u * v)) (i + m))) wr from
        ⟨⟨_, rfl, by rw [Hg.out]; have := hown.take (m := blen (u * v)) (by simp) (by simpa using blen_le HE.out); rwa [le_take _ _ _ (blen_le HE.out)] at this⟩, by rw [Hg.out]; exact HB0.out.trans hbl⟩)
      clear HR HR' hown hbl
      go_wp2_with fail
      refine (trim_any (some ⟨g, 0, none⟩) (i + m) (i + m) (u * v) wr.heap.size wr q3 HE.out (Nat.le_refl _) q2).mono ?_
      rintro e w' ⟨rfl, rfl⟩
      go_wp2
      go_ret
      exact HX.out
end Go.Proofs.YtnkklmbmodkogaaDoor

/-! R6 -/
namespace Go.Proofs.YtnkklmbmodkogaaDoor
open Go.RowKit

/-- x is the Int of z: its bytes lie below B. -/
def IntIs (w : World) (B : Nat) (x : Value) (z : Int) : Prop :=
  ∃ A c, x = .agg #[.bool (decide (z < 0)), .slice A (blen z.natAbs) c] ∧ blen z.natAbs ≤ c ∧ c ≤ maxLen ∧ Bys w B A (be z.natAbs (blen z.natAbs))
/-- The call returns the Int of z; what was there is as it was. -/
def RetInt (w : World) (z : Int) (e : Ending) (w' : World) : Prop := (∃ x, e = .returned x ∧ IntIs w' w'.heap.size x z) ∧ Below w.heap.size w w'
/-- A sign and an absolute value. -/
def sgn (neg : Bool) (v : Nat) : Int := if neg then -(v : Int) else v
theorem sgn_abs (neg : Bool) (v : Nat) : (sgn neg v).natAbs = v := by unfold sgn; split <;> omega
theorem sgn_neg (neg : Bool) (v : Nat) : decide (sgn neg v < 0) = (neg && decide (0 < blen v)) := by
  have hb : 0 < blen v ↔ 0 < v := ⟨fun h => by rcases Nat.eq_zero_or_pos v with h0 | h0; (rw [h0, blen_zero] at h; omega); exact h0, blen_pos⟩
  rw [show decide (0 < blen v) = decide (0 < v) from decide_eq_decide.2 hb]
  cases neg
  · simp [sgn]
  · simp [sgn]

theorem retInt_of {w w' : World} {D : Option Addr} {e v : Nat} {z : Int} {B : Nat} (hown : Own w' B (.slice D (blen v) e) (be v (blen v))) (hz : z.natAbs = v) (hb : Below w.heap.size w w') :
    RetInt w z (.returned (.agg #[.bool (decide (z < 0)), .slice D (blen v) e])) w' := by
  subst hz
  obtain ⟨A1, c1, hx, q1, q2, q3⟩ := hown.form
  simp only [be_len, Value.slice.injEq, true_and] at hx q1
  obtain ⟨rfl, rfl⟩ := hx
  exact ⟨⟨_, rfl, _, _, rfl, q1, q2, q3⟩, hb⟩

set_option maxHeartbeats 1000000 in
theorem make_any (neg : Bool) (A : Option Addr) (n c v B : Nat) (w : World) (hr : Bys w B A (le v n)) (hB : B ≤ w.heap.size) (hv : v < 256 ^ n) (hn : n < 1000000) (hc : n ≤ c) (hm : c ≤ maxLen) :
    Calls Tryd.prog 48 #[.bool neg, .slice A n c] w (RetInt w (sgn neg v)) := by
  have hsn := sgn_neg neg v
  have hza := sgn_abs neg v
  generalize sgn neg v = z at *
  have HZA := Lib.hid hza
  have HSN := Lib.hid hsn
  clear hza hsn
  go_enter Tryd.func48, Tryd.ntmps48
  go_wp2_with fail
  refine (trim_any A n c v B _ (hr.alloc hB _) hv hc hm).mono ?_
  rintro e w' ⟨rfl, rfl⟩
  have hl := blen_le hv
  have hbe : Bys w B A (le v (blen v)) := fun h0 => by
    simp only [le_len] at h0
    obtain ⟨b, o, e, hb, hcell⟩ := hr (by simp; omega)
    refine ⟨b, o, e, hb, fun k hk => ?_⟩
    simp only [le_len] at hk
    rw [hcell k (by simp; omega), le_get v n k (by omega), le_get v _ k hk]
  clear hr
  cases neg
  all_goals
    go_wp2
    go_loopw [6] (fun i wr => ∃ (k : Nat) (nb : Bool) (D : Option Addr) (m e : Nat), k ≤ blen v ∧ i = .int .i64 ((k : Int) - 1) ∧ Hid (nb = decide (z < 0)) ∧ Hid (m = blen v - k) ∧
      Own wr (w.heap.size + 2) (.slice D m e) ((be v (blen v)).take m) ∧ Var wr (w.heap.size + 1) 24 #[.bool nb, .slice D m e] ∧ Var wr w.heap.size 24 #[.bool false, .slice none 0 0] ∧ w.heap.size + 2 ≤ wr.heap.size ∧ Below w.heap.size w wr) (fun i _ => (intOf i + 1).toNat)
    case atStart => exact ⟨blen v, _, none, 0, 0, Nat.le_refl _, rfl, HSN.out.symm, (by show (0 : Nat) = blen v - blen v; omega), Own.nil_, heap_alloc2_new _ _ _, heap_alloc2_old _ _ _, by simp, ((Below.refl _ w).alloc (Nat.le_refl _) _).alloc (by simp) _⟩
    case round =>
      obtain ⟨k, nb, D, m, e, hk, rfl, hnb, hm2, hown, hv1, hv0, hsz, hbl⟩ := hrel
      have f1 := hv1.cell 1
      have z1 := hv1.free 1
      by_cases h0 : 0 < k
      · obtain ⟨b, o, rfl, hbB, hcell⟩ := hbe (by simp; omega)
        have hcl : wr.cell? ⟨b, o + (k - 1), none⟩ = some (.int .u8 (byt v (k - 1))) := by
          rw [kept_cell hbl (hcell (k - 1) (by simp; omega)) (by omega), le_get v _ (k - 1) (by omega)]
        have hle : (be v (blen v)).take (m + 1) = (be v (blen v)).take m ++ [byt v (k - 1)] := by
          have hm3 : m = blen v - k := hm2
          rw [List.take_succ_eq_append_getElem (by simp; omega)]
          congr 2
          simp only [be, List.getElem_map, List.getElem_range]
          congr 1
          omega
        have i0 : (0 : Int) ≤ (k : Int) - 1 := by omega
        have i1 : (k : Int) - 1 < blen v := by omega
        have HO := Lib.hid hown
        have HB := Lib.hid hbl
        have HV1 := Lib.hid hv1
        have HV0 := Lib.hid hv0
        have HLE := Lib.hid hle
        have HBE := Lib.hid hbe
        clear hown hbl hv1 hv0 hle hcell hbe
        simp only [List.getElem?_toArray, List.getElem?_cons_succ, List.getElem?_cons_zero] at f1
        have f1a : ∀ q, (wr.alloc q).cell? ⟨w.heap.size + 1, 1, none⟩ = some (.slice D m e) := fun q => by have := (HV1.out.alloc q).cell 1; simpa using this
        go_wp2
        go_region_law (refine step1 rfl _ _ _ rfl Tryd.underlying22 rfl (by first | exact HO.out.drew.alloc _ | exact (HO.out.alloc _).drew | exact HO.out.alloc _) (W := wr) (by first | exact ((Below.refl _ wr).drew).alloc (by simp; omega) _ | exact (((Below.refl _ wr)).alloc (by simp; omega) _).drew) (by simp; omega) wr.heap.size (byt v (k - 1)) rfl (by show (wr.alloc _).cell? _ = _; rw [World.cell?_alloc_at _ _ _ _ rfl]; rfl) m (by simp; have : m = blen v - k := hm2; omega) (by have : m = blen v - k := hm2; omega) ?_; intro g' c' w1 hown1 hb1; have hw1 := HV1.out.below hb1 (by omega); have f2 := hw1.cell 1; have z2 := hw1.free 1; simp only [List.getElem?_toArray, List.getElem?_cons_succ, List.getElem?_cons_zero] at f2)
        all_goals
          go_wp2
          go_roundw
          case rel => exact ⟨k - 1, nb, _, m + 1, c', by omega, vi (by omega), hnb, (by have : m = blen v - k := hm2; show m + 1 = _; omega), by rw [HLE.out]; exact hown1.low (by show w.heap.size + 1 < _; omega) _, by simpa using hw1.set_ 1 _, (HV0.out.below hb1 (by omega)).far (by simp) _, by have := hb1.size; simp; omega, (HB.out.trans (hb1.mono (by omega))).setCell (by show w.heap.size ≤ w.heap.size + 1; omega) _⟩
          case measure => simp [intOf]; omega
      · obtain rfl : k = 0 := by omega
        have hm3 : m = blen v := by have : m = blen v - 0 := hm2; omega
        subst hm3
        rw [List.take_of_length_le (by simp)] at hown
        obtain rfl : nb = decide (z < 0) := hnb
        have f0 := hv1.cell 0
        simp only [List.getElem?_toArray, List.getElem?_cons_succ, List.getElem?_cons_zero] at f0 f1
        have r0 := hv0.cell 0
        have r1 := hv0.cell 1
        have y0 := hv0.free 0
        have y1 := hv0.free 1
        simp only [List.getElem?_toArray, List.getElem?_cons_succ, List.getElem?_cons_zero] at r0 r1
        have HX := Lib.hid (show RetInt w (z) (Ending.returned (.agg #[.bool (decide (z < 0)), .slice D (blen v) e])) ((wr.setCell ⟨w.heap.size, 0, none⟩ (.bool (decide (z < 0)))).setCell ⟨w.heap.size, 1, none⟩ (.slice D (blen v) e)) from
          retInt_of ((hown.low (by show w.heap.size < _; omega) _).low (by show w.heap.size < _; omega) _) HZA.out ((hbl.setCell (Nat.le_refl _) _).setCell (Nat.le_refl _) _))
        clear hbe hown hbl hv1 hv0
        go_wp2
        exact bodyPost_ret (by simp [results, Tryd.results48, go_sem, r0, r1]) rfl HX.out
end Go.Proofs.YtnkklmbmodkogaaDoor

/-! R7 -/
namespace Go.Proofs.YtnkklmbmodkogaaDoor
open Go.RowKit

/-- x is the reference's natural number v. -/
def NatIs (w : World) (B : Nat) (x : Value) (v : Nat) : Prop := ∃ A c, x = .slice A (blen v) c ∧ blen v ≤ c ∧ c ≤ maxLen ∧ Bys w B A (le v (blen v))
def RetNat (w : World) (v : Nat) (e : Ending) (w' : World) : Prop := (∃ x, e = .returned x ∧ NatIs w' w'.heap.size x v) ∧ Below w.heap.size w w'
section
variable {w w' : World} {B B' : Nat} {x : Value} {v : Nat} {z : Int}
theorem NatIs.below (h : NatIs w B x v) (hb : Below B w w') : NatIs w' B x v := by obtain ⟨A, c, e, h1, h2, h3⟩ := h; exact ⟨A, c, e, h1, h2, h3.below hb⟩
theorem NatIs.more (h : NatIs w B x v) (hB : B ≤ B') : NatIs w B' x v := by obtain ⟨A, c, e, h1, h2, h3⟩ := h; exact ⟨A, c, e, h1, h2, h3.more hB⟩
theorem NatIs.alloc (h : NatIs w B x v) (hB : B ≤ w.heap.size) (o : Obj) : NatIs (w.alloc o) B x v := by obtain ⟨A, c, e, h1, h2, h3⟩ := h; exact ⟨A, c, e, h1, h2, h3.alloc hB o⟩
theorem NatIs.next (h : NatIs w w.heap.size x v) (hb : Below w.heap.size w w') : NatIs w' w'.heap.size x v := (h.below hb).more hb.size
theorem IntIs.below (h : IntIs w B x z) (hb : Below B w w') : IntIs w' B x z := by obtain ⟨A, c, e, h1, h2, h3⟩ := h; exact ⟨A, c, e, h1, h2, h3.below hb⟩
theorem IntIs.more (h : IntIs w B x z) (hB : B ≤ B') : IntIs w B' x z := by obtain ⟨A, c, e, h1, h2, h3⟩ := h; exact ⟨A, c, e, h1, h2, h3.more hB⟩
theorem IntIs.next (h : IntIs w w.heap.size x z) (hb : Below w.heap.size w w') : IntIs w' w'.heap.size x z := (h.below hb).more hb.size
theorem RetOwn.nat {e : Ending} (h : RetOwn w (le v (blen v)) e w') : RetNat w v e w' := by
  obtain ⟨⟨x, rfl, ho⟩, hb⟩ := h
  obtain ⟨A, c, rfl, h1, h2, h3⟩ := ho.form
  simp only [le_len] at h1 ⊢
  exact ⟨⟨_, rfl, A, c, rfl, h1, h2, h3⟩, hb⟩
end
theorem below_alloc (w : World) (o : Obj) : Below w.heap.size w (w.alloc o) := (Below.refl _ w).alloc (Nat.le_refl _) o

theorem plus_nat (x y : Value) (u v : Nat) (w : World) (hx : NatIs w w.heap.size x u) (hy : NatIs w w.heap.size y v) (hu : blen u < 1000000) (hv : blen v < 1000000) :
    Calls Tryd.prog 53 #[x, y] w (RetNat w (u + v)) := by
  obtain ⟨A, c, rfl, h1, h2, h3⟩ := hx
  obtain ⟨A', c', rfl, h1', h2', h3'⟩ := hy
  exact (plus_any A A' _ _ c c' u v w.heap.size w h3 h3' (Nat.le_refl _) (blen_hi u) (blen_hi v) hu hv).mono fun _ _ h => h.nat
theorem minus_nat (x y : Value) (u v : Nat) (w : World) (hx : NatIs w w.heap.size x u) (hy : NatIs w w.heap.size y v) (hu : blen u < 1000000) (hv : blen v < 1000000) (h : v ≤ u) :
    Calls Tryd.prog 54 #[x, y] w (RetNat w (u - v)) := by
  obtain ⟨A, c, rfl, h1, h2, h3⟩ := hx
  obtain ⟨A', c', rfl, h1', h2', h3'⟩ := hy
  exact (minus_any A A' _ _ c c' u v w.heap.size w h3 h3' (Nat.le_refl _) (blen_hi u) (blen_hi v) h hu hv).mono fun _ _ h => h.nat
theorem times_nat (x y : Value) (u v : Nat) (w : World) (hx : NatIs w w.heap.size x u) (hy : NatIs w w.heap.size y v) (hu : blen u < 1000000) (hv : blen v < 1000000) :
    Calls Tryd.prog 55 #[x, y] w (RetNat w (u * v)) := by
  obtain ⟨A, c, rfl, h1, h2, h3⟩ := hx
  obtain ⟨A', c', rfl, h1', h2', h3'⟩ := hy
  exact (times_any A A' _ _ c c' u v w.heap.size w h3 h3' (Nat.le_refl _) (blen_hi u) (blen_hi v) hu hv).mono fun _ _ h => h.nat
theorem order_nat (x y : Value) (u v : Nat) (w : World) (hx : NatIs w w.heap.size x u) (hy : NatIs w w.heap.size y v) (hu : blen u < 1000000) (hv : blen v < 1000000) :
    Calls Tryd.prog 46 #[x, y] w fun e w' => e = .returned (.int .i64 (cmpN u v)) ∧ Below w.heap.size w w' := by
  obtain ⟨A, c, rfl, h1, h2, h3⟩ := hx
  obtain ⟨A', c', rfl, h1', h2', h3'⟩ := hy
  exact order_any A A' _ _ c c' u v w.heap.size w h3 h3' (Nat.le_refl _) rfl rfl hu hv
theorem make_nat (neg : Bool) (x : Value) (v : Nat) (w : World) (hx : NatIs w w.heap.size x v) (hv : blen v < 1000000) :
    Calls Tryd.prog 48 #[.bool neg, x] w (RetInt w (sgn neg v)) := by
  obtain ⟨A, c, rfl, h1, h2, h3⟩ := hx
  exact make_any neg A _ c v w.heap.size w h3 (Nat.le_refl _) (blen_hi v) hv h1 h2
theorem abs_int (x : Value) (z : Int) (w : World) (hx : IntIs w w.heap.size x z) (hz : blen z.natAbs < 1000000) :
    Calls Tryd.prog 47 #[x] w (RetNat w z.natAbs) := by
  obtain ⟨A, c, rfl, h1, h2, h3⟩ := hx
  exact (abs_any _ A _ c _ w.heap.size w h3 (Nat.le_refl _) hz h1 h2).mono fun _ _ h => h.nat

/-! ### Negative, Sum, Product, Compare, Limited, Same -/
theorem sgn_not (z : Int) : sgn (!decide (z < 0)) z.natAbs = -z := by
  by_cases h : z < 0
  · simp [h, sgn]; omega
  · simp [h, sgn]; omega

theorem undrew {B : Nat} {w w' : World} (h : Below B w.drew w') : Below B w w' := ⟨h.os, h.tape, h.output, h.size, h.block⟩
theorem undrewN {B n : Nat} {w w' : World} (h : Below B (w.drewN n) w') : Below B w w' := ⟨h.os, h.tape, h.output, h.size, h.block⟩
/-! The variables that a call lays first. -/
theorem boxes1 (w : World) (T : TypeId) (P : Array Value) : Var (w.alloc (.cells P T)) w.heap.size T P ∧ Below w.heap.size w (w.alloc (.cells P T)) ∧ w.heap.size + 1 ≤ (w.alloc (.cells P T)).heap.size :=
  ⟨Var.new w T P, below_alloc w _, by simp⟩
theorem boxes2 (w : World) (T T' : TypeId) (P Q : Array Value) :
    Var ((w.alloc (.cells P T)).alloc (.cells Q T')) w.heap.size T P ∧ Var ((w.alloc (.cells P T)).alloc (.cells Q T')) (w.heap.size + 1) T' Q ∧ Below w.heap.size w ((w.alloc (.cells P T)).alloc (.cells Q T')) ∧ w.heap.size + 2 ≤ ((w.alloc (.cells P T)).alloc (.cells Q T')).heap.size :=
  ⟨heap_alloc2_old w _ _, heap_alloc2_new w _ _, (below_alloc w _).trans ((below_alloc _ _).mono (by simp)), by simp⟩
theorem boxes3 (w : World) (T T' T'' : TypeId) (P Q R : Array Value) :
    Var (((w.alloc (.cells P T)).alloc (.cells Q T')).alloc (.cells R T'')) w.heap.size T P ∧ Var (((w.alloc (.cells P T)).alloc (.cells Q T')).alloc (.cells R T'')) (w.heap.size + 1) T' Q ∧
    Var (((w.alloc (.cells P T)).alloc (.cells Q T')).alloc (.cells R T'')) (w.heap.size + 2) T'' R ∧
    Below w.heap.size w (((w.alloc (.cells P T)).alloc (.cells Q T')).alloc (.cells R T'')) ∧ w.heap.size + 3 ≤ (((w.alloc (.cells P T)).alloc (.cells Q T')).alloc (.cells R T'')).heap.size := by
  obtain ⟨h1, h2, h3, h4⟩ := boxes2 w T T' P Q
  refine ⟨h1.alloc _, h2.alloc _, ?_, h3.trans ((below_alloc _ _).mono (by omega)), by simp⟩
  have := Var.new ((w.alloc (.cells P T)).alloc (.cells Q T')) T'' R
  have e : ((w.alloc (.cells P T)).alloc (.cells Q T')).heap.size = w.heap.size + 2 := by simp
  rwa [e] at this

/-- The Int is stored into the result's variable. -/
theorem retInt_store {w w2 : World} {b : Nat} {z : Int} {ng f : Bool} {A D : Option Addr} {n c m e : Nat} (h : IntIs w2 w2.heap.size (.agg #[.bool ng, .slice A n c]) z) (hv : Var w2 b 24 #[.bool f, .slice D m e])
    (hb : Below w.heap.size w w2) (hle : w.heap.size ≤ b) :
    RetInt w z (.returned (.agg #[.bool ng, .slice A n c])) ((w2.setCell ⟨b, 0, none⟩ (.bool ng)).setCell ⟨b, 1, none⟩ (.slice A n c)) := by
  obtain ⟨A', c', he, h1, h2, h3⟩ := h
  refine ⟨⟨_, rfl, A', c', he, h1, h2, fun hn => ?_⟩, (hb.setCell hle _).setCell hle _⟩
  obtain ⟨b', o', rfl, hlt, hcell⟩ := h3 hn
  have hne : b' ≠ b := by
    rintro rfl
    have h0 := hcell 0 hn
    rw [hv.cell] at h0
    match o', h0 with
    | 0, h0 => simp at h0
    | 1, h0 => simp at h0
    | k + 2, h0 => simp at h0
  refine ⟨b', o', rfl, by simpa using hlt, fun k hk => ?_⟩
  have key : ∀ (W : World) (i : Nat) (u : Value), (W.setCell ⟨b, i, none⟩ u).cell? ⟨b', o' + k, none⟩ = W.cell? ⟨b', o' + k, none⟩ := fun W i u => World.cell?_setCell_other W _ _ u (fun e => hne (by have := congrArg Addr.block e; first | exact this | exact this.symm))
  rw [key, key]
  exact hcell k hk

/-- What an Int looks like, without its value. -/
theorem IntIs.look {w : World} {B : Nat} {x : Value} {z : Int} (h : IntIs w B x z) : ∃ f A n c, x = .agg #[.bool f, .slice A n c] ∧ IntIs w B (.agg #[.bool f, .slice A n c]) z ∧ f = decide (z < 0) ∧ n = blen z.natAbs := by
  obtain ⟨A, c, rfl, h1, h2, h3⟩ := h
  exact ⟨_, A, _, c, rfl, ⟨A, c, rfl, h1, h2, h3⟩, rfl, rfl⟩
theorem IntIs.step {w w' : World} {x : Value} {z : Int} (h : IntIs w w.heap.size x z) (hb : Below w.heap.size w w') : IntIs w' w'.heap.size x z := h.next hb

set_option maxHeartbeats 1000000 in
theorem negative_int (x : Value) (z : Int) (w : World) (hx : IntIs w w.heap.size x z) (hz : blen z.natAbs < 1000000) :
    Calls Tryd.prog 24 #[x] w (RetInt w (-z)) := by
  obtain ⟨f, A, n, c, rfl, hx, hf, hn⟩ := hx.look
  have e0 := sgn_not z
  rw [← hf] at e0
  have E0 := Lib.hid e0
  have HZ := Lib.hid hz
  obtain ⟨hv0, hv1, hbW, hsz⟩ := boxes2 w 24 24 #[.bool f, .slice A n c] #[.bool false, .slice none 0 0]
  have hX := Lib.hid (hx.step hbW)
  clear hx hf hn e0 hz
  go_enter Tryd.func24, Tryd.ntmps24
  go_wp2_with fail
  generalize (w.alloc (.cells #[.bool f, .slice A n c] 24)).alloc (.cells #[.bool false, .slice none 0 0] 24) = W at *
  have k0 := hv0.cell 0
  have k1 := hv0.cell 1
  simp only [List.getElem?_toArray, List.getElem?_cons_succ, List.getElem?_cons_zero] at k0 k1
  have HW := Lib.hid hbW
  have HV := Lib.hid hv1
  have hlt : w.heap.size < W.heap.size := by omega
  have hlt1 : w.heap.size + 1 < W.heap.size := by omega
  clear hv0 hv1 hbW
  go_region_held3 (fun w' => w'.cell? ⟨w.heap.size, 0, none⟩ = some (.bool f) ∧ w'.cell? ⟨w.heap.size, 1, none⟩ = some (.slice A n c)) (first | exact ⟨by assumption, by assumption⟩ | go_keep)
    (first
      | (go_at_call 47; refine (abs_int _ z _ (by exact hX.out) HZ.out).mono ?_; rintro e w1 ⟨⟨x1, rfl, hn1⟩, hq0⟩; have hq1 := undrew hq0; have k0' := kept_cell hq1 k0 hlt; have k1' := kept_cell hq1 k1 hlt)
      | (go_at_call 48; refine (make_nat _ x1 _ _ (by exact hn1) HZ.out).mono ?_; rintro e w2 ⟨⟨x2, rfl, hi2⟩, hq2'⟩; rw [E0.out] at hi2; have hq2 := hq1.trans (hq2'.mono hq1.size); have k0'' := kept_cell hq2 k0 hlt; have k1'' := kept_cell hq2 k1 hlt; have hv2 := HV.out.below hq2 hlt1; have s0 := hv2.cell 0; have s1 := hv2.cell 1; have t0 := hv2.free 0; have t1 := hv2.free 1; simp only [List.getElem?_toArray, List.getElem?_cons_succ, List.getElem?_cons_zero] at s0 s1; obtain ⟨f2, A2, n2, c2, rfl, hi3, hf2, hn2⟩ := hi2.look; clear hf2 hn2))
  have HX := Lib.hid (retInt_store hi3 hv2 (HW.out.trans (hq2.mono (by show w.heap.size ≤ W.heap.size; omega))) (Nat.le_succ _))
  clear hi2 hi3 hv2 hn1
  go_wp2
  exact bodyPost_ret (by simp [results, Tryd.results24, go_sem, s0, s1]) rfl HX.out
end Go.Proofs.YtnkklmbmodkogaaDoor
