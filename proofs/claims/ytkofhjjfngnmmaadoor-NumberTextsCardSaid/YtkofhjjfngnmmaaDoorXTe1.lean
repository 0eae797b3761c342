/- The reference's Tenth. -/
import Derived.Test.YtkofhjjfngnmmaaDoorG2
namespace Go.Proofs.YtkofhjjfngnmmaaDoor
open Go.RowKit

/-- The bytes of Q from k on. -/
def hib (Q k n : Nat) : List Int := (List.range n).map fun j => if k ≤ j then byt Q j else 0
@[simp] theorem hib_len (Q k n : Nat) : (hib Q k n).length = n := by simp [hib]
theorem hib_zero (Q n : Nat) : hib Q 0 n = le Q n := by simp [hib, le]
theorem hib_all (Q n : Nat) : hib Q n n = List.replicate n 0 := by
  apply List.ext_getElem
  · simp
  · intro k h1 h2
    simp only [hib_len] at h1
    simp [hib]; omega
theorem hib_set (Q k n : Nat) (hk : k < n) : (hib Q (k + 1) n).set k (byt Q k) = hib Q k n := by
  apply List.ext_getElem
  · simp
  · intro j h1 h2
    simp only [List.length_set, hib_len] at h1
    rw [List.getElem_set]
    simp only [hib, List.getElem_map, List.getElem_range]
    by_cases e : k = j
    · subst e; simp
    · rw [if_neg e]
      by_cases h : k + 1 ≤ j
      · rw [if_pos h, if_pos (by omega)]
      · rw [if_neg h, if_neg (by omega)]
/-- The remainder of the digits above k. -/
def rm10 (v k : Nat) : Nat := v / 256 ^ k % 10
theorem tenth_digit (v k : Nat) : (256 * (rm10 v (k + 1) : Int) + byt v k) / 10 = byt (v / 10) k ∧ (256 * (rm10 v (k + 1) : Int) + byt v k) % 10 = rm10 v k ∧ 0 ≤ 256 * (rm10 v (k + 1) : Int) + byt v k ∧ 256 * (rm10 v (k + 1) : Int) + byt v k ≤ 2559 := by
  have e1 : v / 256 ^ (k + 1) = v / 256 ^ k / 256 := div_pow_succ v 256 k
  have e2 : v / 10 / 256 ^ k = v / 256 ^ k / 10 := by rw [Nat.div_div_eq_div_mul, Nat.div_div_eq_div_mul, Nat.mul_comm]
  unfold rm10 byt
  rw [e1, e2]
  generalize v / 256 ^ k = x
  omega

set_option maxRecDepth 100000 in
set_option maxHeartbeats 2000000 in
theorem tenth_any (A : Option Addr) (n c v B : Nat) (w : World) (hr : Bys w B A (le v n)) (hB : B ≤ w.heap.size) (hv : v < 256 ^ n) (hn1 : n < 1000000) :
    Calls Tryd.prog 63 #[.slice A n c] w fun e w' => (∃ x, e = .returned (.tuple #[x, .int .i64 ((v % 10 : Nat) : Int)]) ∧ NatIs w' w'.heap.size x (v / 10)) ∧ Below w.heap.size w w' := by
  go_enter Tryd.func63, Tryd.ntmps63
  go_wp2_with (refine make1 rfl _ _ _ rfl Tryd.underlying62 n _ _ rfl rfl ?c1 ?c2 ?c3 (Below.refl _ _) (Nat.le_refl _) ?_)
  case c1 => simp
  case c2 => simp
  case c3 => omega
  intro w1 hown0 hbl0 hsz0
  rw [← hib_all (v / 10)] at hown0
  have HR := hr.below' hbl0 hB
  clear hr
  have HB0 := Lib.hid hbl0
  clear hbl0
  have hq : v / 10 < 256 ^ n := Nat.lt_of_le_of_lt (Nat.div_le_self _ _) hv
  have HQ := Lib.hid hq
  clear hq
  have hk0 : IntKind.i64.wrap ((n : Int) - 1) = (n : Int) - 1 := by rw [IntKind.wrap_i64]; omega
  have hr0 : rm10 v n = 0 := by unfold rm10; rw [Nat.div_eq_of_lt hv]
  go_wp2
  generalize hg : w.heap.size = g at *
  have Hg := Lib.hid hg
  clear hg
  go_loopw [5, 6] (fun r i wr => ∃ k : Nat, k ≤ n ∧ r = .int .i64 (rm10 v k : Nat) ∧ i = .int .i64 ((k : Int) - 1) ∧ Own wr g (.slice (some ⟨g, 0, none⟩) n n) (hib (v / 10) k n) ∧ Below g w1 wr) (fun _ i _ => (intOf i + 1).toNat)
  case atStart => exact ⟨n, Nat.le_refl _, by simp [hr0], by first | rfl | simp [hk0] | go_num, hown0, Below.refl _ _⟩
  case round =>
    obtain ⟨k, hk, rfl, rfl, hown, hbl⟩ := hrel
    rcases Nat.eq_zero_or_pos k with rfl | hk1
    · rw [hib_zero] at hown
      obtain ⟨A1, c1, hx, q1, q2, q3⟩ := hown.form
      simp only [le_len, Value.slice.injEq, true_and] at hx q1
      obtain ⟨rfl, rfl⟩ := hx
      have hmod : rm10 v 0 = v % 10 := by simp [rm10]
      have hwg : g ≤ wr.heap.size := by have h1 := HB0.out.size; have h2 := hbl.size; omega
      have HX := Lib.hid (show NatIs wr wr.heap.size (.slice (some ⟨g, 0, none⟩) (blen (v / 10)) n) (v / 10) from ⟨_, _, rfl, blen_le HQ.out, q2, (by
        have := hown.take (m := blen (v / 10)) (by simp) (by simpa using blen_le HQ.out)
        rw [le_take _ _ _ (blen_le HQ.out)] at this
        obtain ⟨A2, c2, hx2, r1, r2, r3⟩ := this.form
        simp only [le_len, Value.slice.injEq, true_and] at hx2
        obtain ⟨rfl, rfl⟩ := hx2
        exact r3)⟩)
      have HBB := Lib.hid (HB0.out.trans hbl)
      clear HR hown hbl
      go_wp2_with fail
      refine (trim_any (some ⟨g, 0, none⟩) n n (v / 10) wr.heap.size wr q3 HQ.out (Nat.le_refl _) q2).mono ?_
      rintro e w' ⟨rfl, rfl⟩
      go_wp2
      refine bodyPost_ret (v := .tuple #[.slice (some ⟨g, 0, none⟩) (blen (v / 10)) n, .int .i64 ((v % 10 : Nat) : Int)]) ?_ rfl ⟨⟨_, rfl, HX.out⟩, by rw [Hg.out]; exact HBB.out⟩
      simp [results, Tryd.results63, go_sem, hmod]
    · obtain ⟨k, rfl⟩ : ∃ k0, k = k0 + 1 := ⟨k - 1, by omega⟩
      have hrr := HR.below' hbl (by omega)
      obtain ⟨b, o, rfl, hbB, hcell⟩ := hrr (by simpa using (by omega))
      have hc1 : wr.cell? ⟨b, o + k, none⟩ = some (.int .u8 (byt v k)) := by
        rw [hcell k (by simpa using (by omega)), le_get v n k (by omega)]
      have hfz := hown.freeAt k
      have hc3 : wr.cell? ⟨g, k, none⟩ = some (.int .u8 ((hib (v / 10) (k + 1) n)[k]?.getD 0)) := hown.cellAt (j := k) (by simp; omega)
      generalize (hib (v / 10) (k + 1) n)[k]?.getD 0 = old at hc3
      have hd := tenth_digit v k
      obtain ⟨d1, d2, d3, d4⟩ := hd
      have hO1 := hown.set_ (j := k) (byt (v / 10) k)
      rw [hib_set _ _ _ (by omega)] at hO1
      have hHO := Lib.hid hO1
      have hHB := Lib.hid (hbl.setCell (p := ⟨g, k, none⟩) (Nat.le_refl _) (.int .u8 (byt (v / 10) k)))
      have hxb := byt_b (v / 10) k
      have hvb := byt_b v k
      have hkk : (((k + 1 : Nat) : Int) - 1) = (k : Int) := by omega
      rw [hkk]
      clear hcell hrr hown hbl HR hO1
      go_wp2
      rw [d2]
      refine ⟨⟨k, by omega, rfl, rfl, hHO.out, hHB.out⟩, ?_⟩
      show (((k : Int) - 1) + 1).toNat < ((k : Int) + 1).toNat
      omega
end Go.Proofs.YtkofhjjfngnmmaaDoor
