/- magnitudeOf. magnitude.digits. number.signed, number.checked. number.checked, number.Of, number.Neg. A call of a function that the model stands in for, inside a region that draws its order. magnitude.add. magnitude.subtract. cmp.Compare at uint64, magnitude.compare. Words of any number of places; the rows of a product of words. No walk. A fresh variable of a magnitude, filled. -/
import Derived.Test.YtnkklmbmodkogaaDoorG3
import Derived.Test.YtnkklmbmodkogaaDoorG1
import Derived.RegionTactic
import Derived.Laws.ShiftsVarLaws
import Derived.Lib.ItoaNum
import Derived.Deep.RegionHeld3
import Derived.Deep.RegionLaw
/-! M1 -/
namespace Go.Proofs.YtnkklmbmodkogaaDoor
open Go.RowKit

theorem mag_size (xs : List Int) : (mag xs).size = xs.length := by simp [mag]
theorem info8 (xs : List Int) (h : xs.length = 8) : (Tryd.prog.info? 56).map (·.size) = some (mag xs).size := by
  rw [mag_size, h]; kernel_rfl
theorem mag_one (xs : List Int) : (mag xs).all (·.oneCell') = true := by
  simp [mag, Value.oneCell']
theorem zero8 : mag [0, 0, 0, 0, 0, 0, 0, 0] = #[.int .u64 0, .int .u64 0, .int .u64 0, .int .u64 0, .int .u64 0, .int .u64 0, .int .u64 0, .int .u64 0] := rfl

/-- A magnitude is read out of its variable. -/
theorem ldm {ops : Array Oper} {rest : List Oper} {o : Oper} {a : Act} {w : World} {Q : Exit → Act → World → Prop} (hgd : o.guard = none) (x : Operand) (ho : o.op = .load 56 x)
    (g : Nat) (hx : a.eval x = .pointer (some ⟨g, 0, none⟩)) (xs : List Int) (hb : Box w g 56 xs) (h8 : xs.length = 8)
    (h : wpList Tryd.prog ops Q rest (a.put o.dst (.agg (mag xs))) w) : wpList Tryd.prog ops Q (o :: rest) a w :=
  wpList_load_row hgd 56 x ho g hx 56 (mag xs) (0, 0) _ hb Tryd.underlying56 rfl (info8 xs h8) h
/-- A magnitude is stored into a variable. -/
theorem stm {ops : Array Oper} {rest : List Oper} {o : Oper} {a : Act} {w : World} {Q : Exit → Act → World → Prop} (hgd : o.guard = none) (x y : Operand) (ho : o.op = .store 56 x y)
    (g : Nat) (hx : a.eval x = .pointer (some ⟨g, 0, none⟩)) (ys xs : List Int) (hy : a.eval y = .agg (mag xs)) (hb : Box w g 56 ys) (h8 : xs.length = 8) (h8' : ys.length = 8)
    (h : wpList Tryd.prog ops Q rest (a.put o.dst undef) (w.setRow g (mag xs))) : wpList Tryd.prog ops Q (o :: rest) a w :=
  wpList_store_row hgd 56 x y ho g (mag xs) hx hy 56 (mag ys) hb (info8 xs h8) (by rw [mag_size, mag_size, h8, h8']) (mag_one xs) h
theorem Box.setRow {w : World} {g : Nat} {T : TypeId} {xs ys : List Int} (h : Box w g T xs) : Box (w.setRow g (mag ys)) g T ys := setRow_heap w g (mag xs) (mag ys) T (0, 0) h
theorem Box.setRow_other {w : World} {g k : Nat} {T : TypeId} {xs : List Int} {cs : Array Value} (h : Box w k T xs) (hne : k ≠ g) : Box (w.setRow g cs) k T xs := (Go.setRow_other w g k cs hne).trans h
theorem below_setRow {B : Nat} {a w : World} {g : Nat} {cs : Array Value} (h : Below B a w) (hg : B ≤ g) : Below B a (w.setRow g cs) :=
  ⟨h.os, h.tape, h.output, by rw [size_setRow]; exact h.size, fun k hk => (Go.setRow_other w g k cs (by omega)).trans (h.block k hk)⟩
/-- The result that lies in a variable. -/
theorem res_mag {fn : Func} {p : Tmp} (h : fn.results = #[.cell p 56]) (tmps : Array Value) (w : World) (g : Nat) (xs : List Int)
    (hp : tmps.getD p undef = .pointer (some ⟨g, 0, none⟩)) (hb : Box w g 56 xs) (h8 : xs.length = 8) : (results fn tmps).run Tryd.prog w = .ok (.agg (mag xs)) w :=
  results_cell_row (P := Tryd.prog) h tmps w g 56 (mag xs) (0, 0) _ hp hb Tryd.underlying56 rfl (info8 xs h8)

theorem lm_set {X X' q : Nat} (h : ∀ j, j < 8 → j ≠ q → limb X' j = limb X j) : (lm X).set q (limb X' q) = lm X' := by
  apply List.ext_getElem
  · simp
  · intro k h1 h2
    simp only [List.length_set, lm_len] at h1
    rw [List.getElem_set]
    simp only [lm, List.getElem_map, List.getElem_range]
    split
    · subst q; rfl
    · exact (h k h1 (by omega)).symm

theorem magOf_round {v n k : Nat} (h : k < n) : bits BinOp.or IntKind.u64 (limb (hi v n k) ((n - 1 - k) / 8)) (IntKind.u64.wrap (byt v (n - 1 - k) * 2 ^ ((n - 1 - k) % 8 * 8))) = limb (hi v n (k + 1)) ((n - 1 - k) / 8) ∧
    (lm (hi v n k)).set ((n - 1 - k) / 8) (limb (hi v n (k + 1)) ((n - 1 - k) / 8)) = lm (hi v n (k + 1)) := by
  have h1 := (hi_dvd v n k h).2
  rw [show n - k = (n - 1 - k) + 1 from by omega] at h1
  have hd : v / 256 ^ (n - 1 - k) % 256 < 256 := Nat.mod_lt _ (by omega)
  rw [hi_succ v n k h]
  refine ⟨or_step h1 hd, lm_set fun j _ hj => ?_⟩
  rw [limb_add h1 hd, if_neg hj]

set_option maxHeartbeats 1000000 in
theorem magOf_any (A : Option Addr) (n c v B : Nat) (w : World) (hr : Bys w B A (be v n)) (hB : B ≤ w.heap.size) (hv : v < 256 ^ n) (hn : n ≤ 64) :
    Calls Tryd.prog 42 #[.slice A n c] w fun e w' => e = .returned (.agg (mag (lm v))) ∧ Below w.heap.size w w' := by
  have HV := Lib.hid hv
  clear hv
  go_enter Tryd.func42, Tryd.ntmps42
  go_wp2
  go_loopw [5, 6, 12] (fun _ _ i wr => ∃ k : Nat, k ≤ n ∧ i = .int .i64 k ∧ Box wr (w.heap.size + 1) 56 (lm (hi v n k)) ∧ Box wr w.heap.size 56 [0, 0, 0, 0, 0, 0, 0, 0] ∧ Below w.heap.size w wr) (fun _ _ i _ => n - (intOf i).toNat)
  case atStart => exact ⟨0, Nat.zero_le _, rfl, by rw [hi_zero v n HV.out, lm_zero]; exact heap_alloc2_new w _ _, heap_alloc2_old w _ _, (boxes2 w 56 56 _ _).2.2.1⟩
  case round =>
    obtain ⟨k, hk, rfl, hbox, hres, hbl⟩ := hrel
    by_cases g1 : k < n
    · obtain ⟨b, o, rfl, hb, hcell⟩ := hr (by simp; omega)
      have hc := hcell k (by simpa using g1)
      rw [be_get v n k g1] at hc
      have hc1 : wr.cell? ⟨b, o + k, none⟩ = some (.int .u8 (byt v (n - 1 - k))) := kept_cell hbl hc (by omega)
      have hm := hbox.cell ((n - 1 - k) / 8) (by simp; omega)
      rw [lm_get _ _ (by omega)] at hm
      have hz := hbox.free ((n - 1 - k) / 8)
      have hbb := byt_b v (n - 1 - k)
      obtain ⟨l0, l1⟩ := limb_w (hi v n k) ((n - 1 - k) / 8)
      have i0 : 0 ≤ (n : Int) - 1 - k := by omega
      have i1 : ((n : Int) - 1 - k) / 8 < 8 := by omega
      have i2 : 0 ≤ ((n : Int) - 1 - k) / 8 := by omega
      have hb1 := hbox.set_ ((n - 1 - k) / 8) (bits BinOp.or IntKind.u64 (limb (hi v n k) ((n - 1 - k) / 8)) (IntKind.u64.wrap (byt v (n - 1 - k) * 2 ^ ((n - 1 - k) % 8 * 8))))
      have hrd := magOf_round (v := v) g1
      have hse := (congrArg ((lm (hi v n k)).set ((n - 1 - k) / 8)) hrd.1).trans hrd.2
      rw [hse] at hb1
      have HB1 := Lib.hid hb1
      have HR1 := Lib.hid (hres.far (p := ⟨w.heap.size + 1, (n - 1 - k) / 8, none⟩) (by simp) (.int .u64 (bits BinOp.or IntKind.u64 (limb (hi v n k) ((n - 1 - k) / 8)) (IntKind.u64.wrap (byt v (n - 1 - k) * 2 ^ ((n - 1 - k) % 8 * 8))))))
      have HB := Lib.hid (hbl.setCell (p := ⟨w.heap.size + 1, (n - 1 - k) / 8, none⟩) (by simp) (.int .u64 (bits BinOp.or IntKind.u64 (limb (hi v n k) ((n - 1 - k) / 8)) (IntKind.u64.wrap (byt v (n - 1 - k) * 2 ^ ((n - 1 - k) % 8 * 8))))))
      clear hcell hc hr hbl hbox hres hb1 hrd hse
      go_wp2
      go_region
      go_wp2
      go_roundw
      case rel => exact ⟨k + 1, by omega, by go_num, HB1.out, HR1.out, HB.out.drew⟩
      case measure => simp [intOf]; omega
    · obtain rfl : k = n := by omega
      rw [hi_all] at hbox
      clear hr
      have HX := Lib.hid hbox
      have HR := Lib.hid hres
      have HB := Lib.hid (below_setRow (g := w.heap.size) (cs := mag (lm v)) hbl (Nat.le_refl _))
      clear hbox hres hbl
      go_wp2_with (first | (refine ldm rfl _ rfl _ rfl _ HX.out (lm_len v) ?_) | (refine stm rfl _ _ rfl _ rfl _ _ rfl HR.out (lm_len v) rfl ?_))
      exact bodyPost_ret (res_mag rfl _ _ w.heap.size (lm v) rfl HR.out.setRow (lm_len v)) rfl ⟨rfl, HB.out⟩
end Go.Proofs.YtnkklmbmodkogaaDoor

/-! M2 -/
namespace Go.Proofs.YtnkklmbmodkogaaDoor
open Go.RowKit

theorem byt_mod (v k i : Nat) : byt (v % 256 ^ k) i = if i < k then byt v i else 0 := by
  split
  · rename_i h
    unfold byt
    obtain ⟨d, rfl⟩ : ∃ d, k = i + 1 + d := ⟨k - i - 1, by omega⟩
    rw [show (256 : Nat) ^ (i + 1 + d) = 256 ^ i * (256 * 256 ^ d) from by rw [Nat.pow_add, Nat.pow_succ]; ac_rfl, Nat.mod_mul_right_div_self, Nat.mod_mul_right_mod]
  · rename_i h
    exact byt_zero _ _ (Nat.lt_of_lt_of_le (Nat.mod_lt _ (Nat.pow_pos (by omega))) (Nat.pow_le_pow_right (by omega) (by omega)))
theorem be_set (v n k : Nat) (h : k < n) : (be (v % 256 ^ k) n).set (n - 1 - k) (byt v k) = be (v % 256 ^ (k + 1)) n := by
  apply List.ext_getElem
  · simp
  · intro j h1 h2
    simp only [List.length_set, be_len] at h1
    rw [List.getElem_set]
    simp only [be, List.getElem_map, List.getElem_range, byt_mod]
    split
    · rw [if_pos (by omega)]; congr 1; omega
    · by_cases hj : n - 1 - j < k
      · rw [if_pos hj, if_pos (by omega)]
      · rw [if_neg hj, if_neg (by omega)]
theorem be_start (v n : Nat) : List.replicate n 0 = be (v % 256 ^ 0) n := by
  apply List.ext_getElem
  · simp
  · intro j h1 h2; simp [be, byt, Nat.mod_one]
theorem top_lm_lt {v : Nat} (hv : v < 18446744073709551616 ^ 8) : v < 18446744073709551616 ^ top (lm v) := by
  have ht : top (lm v) ≤ 8 := by have := top_le (lm v); simpa using this
  have hm : v % 18446744073709551616 ^ top (lm v) = v := by
    refine lm_inj (Nat.lt_of_le_of_lt (Nat.mod_le _ _) hv) hv fun k hk => ?_
    rcases Nat.lt_or_ge k (top (lm v)) with h | h
    · unfold limb
      obtain ⟨d, hd⟩ : ∃ d, top (lm v) = k + 1 + d := ⟨top (lm v) - k - 1, by omega⟩
      rw [hd, show (18446744073709551616 : Nat) ^ (k + 1 + d) = 18446744073709551616 ^ k * (18446744073709551616 * 18446744073709551616 ^ d) from by rw [Nat.pow_add, Nat.pow_succ]; ac_rfl, Nat.mod_mul_right_div_self, Nat.mod_mul_right_mod]
    · have h1 := top_zero (lm v) k h
      rw [lm_get v k hk] at h1
      rw [h1]
      exact limb_zero _ _ (Nat.lt_of_lt_of_le (Nat.mod_lt _ (Nat.pow_pos (by omega))) (Nat.pow_le_pow_right (by omega) h))
  calc v = v % 18446744073709551616 ^ top (lm v) := hm.symm
    _ < _ := Nat.mod_lt _ (Nat.pow_pos (by omega))
theorem top_lm_zero {v : Nat} (hv : v < 18446744073709551616 ^ 8) : top (lm v) = 0 ↔ v = 0 := by
  constructor
  · intro h; have := top_lm_lt hv; rw [h] at this; omega
  · rintro rfl; rw [lm_zero]; rfl
/-- digits' count. -/
theorem count_eq {v : Nat} (hv : v < 18446744073709551616 ^ 8) (h : 0 < top (lm v)) : (top (lm v) - 1) * 8 + (Lib.bitLen (limb v (top (lm v) - 1)).toNat + 7) / 8 = blen v ∧ 0 < Lib.bitLen (limb v (top (lm v) - 1)).toNat := by
  have h1 := top_lm_lt hv
  have h2 := top_ne (lm v) h
  have h3 : top (lm v) ≤ 8 := by have := top_le (lm v); simpa using this
  rw [lm_get v _ (by omega)] at h2
  generalize top (lm v) = t at *
  obtain ⟨s, rfl⟩ : ∃ s, t = s + 1 := ⟨t - 1, by omega⟩
  simp only [Nat.add_sub_cancel] at h2 ⊢
  have hL : v / 18446744073709551616 ^ s < 18446744073709551616 := Nat.div_lt_of_lt_mul (by rw [← Nat.pow_succ]; exact h1)
  have hl : (limb v s).toNat = v / 18446744073709551616 ^ s := by
    unfold limb
    rw [Int.toNat_natCast, Nat.mod_eq_of_lt hL]
  have hne : v / 18446744073709551616 ^ s ≠ 0 := fun e => h2 (by unfold limb; rw [e]; rfl)
  rw [hl]
  obtain ⟨hpos, b2, b1⟩ : 1 ≤ Lib.bitLen (v / 18446744073709551616 ^ s) ∧ 2 ^ (Lib.bitLen (v / 18446744073709551616 ^ s) - 1) ≤ v / 18446744073709551616 ^ s ∧ v / 18446744073709551616 ^ s < 2 ^ Lib.bitLen (v / 18446744073709551616 ^ s) := Lib.bitLenAux_bounds 64 _ hL hne
  refine ⟨?_, hpos⟩
  generalize Lib.bitLen (v / 18446744073709551616 ^ s) = b at *
  have hp : 0 < 256 ^ (8 * s) := Nat.pow_pos (by omega)
  rw [W8] at b1 b2
  refine blen_unique v _ ?_ fun hn => ?_
  · rw [show s * 8 + (b + 7) / 8 = (b + 7) / 8 + 8 * s from by omega, Nat.pow_add]
    refine (Nat.div_lt_iff_lt_mul hp).1 (Nat.lt_of_lt_of_le b1 ?_)
    rw [show (256 : Nat) = 2 ^ 8 from rfl, ← Nat.pow_mul]
    exact Nat.pow_le_pow_right (by omega) (by omega)
  · rw [show s * 8 + (b + 7) / 8 - 1 = ((b + 7) / 8 - 1) + 8 * s from by omega, Nat.pow_add]
    refine (Nat.le_div_iff_mul_le hp).1 (Nat.le_trans ?_ b2)
    rw [show (256 : Nat) = 2 ^ 8 from rfl, ← Nat.pow_mul]
    exact Nat.pow_le_pow_right (by omega) (by omega)
theorem shr_byte (v i : Nat) : IntKind.u8.wrap (limb v (i / 8) / 2 ^ (i % 8 * 8)) = byt v i := by
  have h := byte_in_limb v i
  unfold limb byt
  rw [← h]
  have e : (2 : Int) ^ (i % 8 * 8) = ((256 ^ (i % 8) : Nat) : Int) := by rw [Nat.mul_comm, Int.pow_mul, Int.natCast_pow]; rfl
  rw [e, IntKind.wrap_u8, ← Int.natCast_ediv]
  rw [Int.natCast_emod]
  rfl

/-- The digits of an absolute value: a slice of the call's own. -/
def RetDig (w : World) (v : Nat) (e : Ending) (w' : World) : Prop := (∃ A c, e = .returned (.slice A (blen v) c) ∧ blen v ≤ c ∧ c ≤ maxLen ∧ Bys w' w'.heap.size A (be v (blen v))) ∧ Below w.heap.size w w'

set_option maxHeartbeats 1000000 in
theorem digits_any (v : Nat) (w : World) (hv : v < 18446744073709551616 ^ 8) :
    Calls Tryd.prog 68 #[.agg (mag (lm v))] w (RetDig w v) := by
  have hW := below_alloc w (.cells (mag (lm v)) 56)
  have hbx := Box.new w 56 (lm v)
  have ht8 : top (lm v) ≤ 8 := by have := top_le (lm v); simpa using this
  have hzz := top_lm_zero hv
  have hvb : blen v ≤ 64 := blen_le (by rwa [W8] at hv)
  by_cases ht : top (lm v) = 0
  · have HZ := Lib.hid (hzz.1 ht)
    have hB : ((top (lm v) : Int) == 0) = true := by simp [ht]
    have HW := Lib.hid hW
    clear ht hzz hv hvb hW
    go_enter Tryd.func68, Tryd.ntmps68
    go_wp2_with (first | (refine ldm rfl _ rfl _ rfl _ hbx (lm_len v) ?_) | (go_at_call 43; refine (length_any (lm v) _ (lm_len v)).mono ?_; rintro e w1 ⟨rfl, hb1⟩))
    have hX : RetDig w v (Ending.returned (.slice none 0 0)) w1 := ⟨⟨none, 0, by rw [HZ.out, blen_zero], by rw [HZ.out, blen_zero]; exact Nat.le_refl _, Nat.zero_le _, by rw [HZ.out, blen_zero]; exact fun h => by simp at h⟩, HW.out.trans (hb1.mono (by simp))⟩
    go_ret
    exact hX
  · have hpos : 0 < top (lm v) := by omega
    obtain ⟨hc, hp⟩ := count_eq hv hpos
    have hB : ((top (lm v) : Int) == 0) = false := by simp [ht]
    have hlw := limb_w v (top (lm v) - 1)
    obtain ⟨l0, l1⟩ := hlw
    have hle := Lib.bitLen_le (limb v (top (lm v) - 1)).toNat 64 (by omega) (by omega)
    have hcnt : ((top (lm v) : Int) - 1) * 8 + ((Lib.bitLen (limb v (top (lm v) - 1)).toNat : Int) + 7) / 8 = (blen v : Int) := by omega
    have HW := Lib.hid hW
    have HN := Lib.hid hvb
    clear ht hzz hv hW hc hvb
    go_enter Tryd.func68, Tryd.ntmps68
    go_wp2_with (first | (refine ldm rfl _ rfl _ rfl _ hbx (lm_len v) ?_) | (go_at_call 43; refine (length_any (lm v) _ (lm_len v)).mono ?_; rintro e w1 ⟨rfl, hb1⟩; have hbx1 := hbx.below hb1 (by simp); have c1 := hbx1.cell (top (lm v) - 1) (by simp; omega); rw [lm_get v _ (by omega)] at c1; clear hbx) | (go_at_call 81; refine (Tryd.bits_Len64 _ _ l0 (by omega)).mono ?_; rintro e w2 ⟨rfl, rfl⟩) | (refine make1 rfl _ _ _ rfl Tryd.underlying22 (blen v) _ _ rfl rfl rfl rfl ?c1 (Below.refl _ _) (Nat.le_refl _) ?_))
    case c1 => have := HN.out; omega
    intro w3 hown hb3 hsz3
    have hlt := hbx1.lt
    have hbx3 := hbx1.below hb3 hlt
    have HB := Lib.hid (hb1.trans (hb3.mono hb1.size))
    have HC := Lib.hid hcnt
    have HS1 := Lib.hid hb1.size
    have h64 := HN.out
    clear hb1 hbx1 hb3 c1 hcnt l0 l1
    rw [be_start v (blen v)] at hown
    go_wp2
    generalize hg : w2.heap.size = g at *
    have HG := Lib.hid hg
    clear hg
    go_loopw [6, 25] (fun _ i wr => ∃ k : Nat, k ≤ blen v ∧ i = .int .i64 k ∧ Own wr g (.slice (some ⟨g, 0, none⟩) (blen v) (blen v)) (be (v % 256 ^ k) (blen v)) ∧ Below g w3 wr) (fun _ i _ => blen v - (intOf i).toNat)
    case atStart => exact ⟨0, Nat.zero_le _, rfl, hown, Below.refl _ _⟩
    case round =>
      obtain ⟨k, hk, rfl, hown1, hbl⟩ := hrel
      by_cases g1 : k < blen v
      · have hbr := hbx3.below hbl hlt
        have hc := hbr.cell (k / 8) (by simp; omega)
        rw [lm_get v _ (by omega)] at hc
        have hc2 := hown1.cellAt (j := blen v - 1 - k) (by simp; omega)
        have hfz := hown1.freeAt (blen v - 1 - k)
        have hO1 := hown1.set_ (j := blen v - 1 - k) (byt v k)
        rw [be_set v (blen v) k g1] at hO1
        have HO := Lib.hid hO1
        have HBL := Lib.hid (hbl.setCell (p := ⟨g, blen v - 1 - k, none⟩) (Nat.le_refl _) (.int .u8 (byt v k)))
        have hsh := shr_byte v k
        obtain ⟨l0, l1⟩ := limb_w v (k / 8)
        have i0 : 0 ≤ (blen v : Int) - 1 - k := by omega
        have i1 : (blen v : Int) - 1 - k < blen v := by omega
        clear hbr hown1 hbl hown hO1 hbx3
        go_wp2
        go_roundw
        case rel => exact ⟨k + 1, by omega, by go_num, HO.out, HBL.out⟩
        case measure => simp [intOf]; omega
      · obtain rfl : k = blen v := by omega
        rw [Nat.mod_eq_of_lt (blen_hi v)] at hown1
        obtain ⟨A1, c1, hx, q1, q2, q3⟩ := hown1.form
        simp only [be_len, Value.slice.injEq, true_and] at hx q1
        obtain ⟨rfl, rfl⟩ := hx
        have hX : RetDig w v (Ending.returned (.slice (some ⟨g, 0, none⟩) (blen v) (blen v))) wr := ⟨⟨_, _, rfl, q1, q2, q3⟩, HW.out.trans ((HB.out.trans (hbl.mono HS1.out)).mono (by simp))⟩
        clear hbx3 hown1 hbl hown
        go_wp2
        go_ret
        exact hX
end Go.Proofs.YtnkklmbmodkogaaDoor

/-! M3 -/
namespace Go.Proofs.YtnkklmbmodkogaaDoor
open Go.RowKit

theorem dig_int {w' : World} {v : Nat} {z : Int} {A : Option Addr} {c : Nat} (h : blen v ≤ c) (h1 : c ≤ maxLen) (hb : Bys w' w'.heap.size A (be v (blen v))) (hz : z.natAbs = v) : IntIs w' w'.heap.size (.agg #[.bool (decide (z < 0)), .slice A (blen v) c]) z := by
  subst hz; exact ⟨A, c, rfl, h, h1, hb⟩
theorem sgn_nz (neg : Bool) (v : Nat) : decide (sgn neg v < 0) = (neg && !decide (v = 0)) := by
  cases neg
  · simp [sgn]
  · by_cases h : v = 0 <;> simp [sgn, h] <;> omega

theorem box8 {w : World} {b : Nat} {a0 a1 a2 a3 a4 a5 a6 a7 : Int} (h : Box w b 56 [a0, a1, a2, a3, a4, a5, a6, a7]) :
    w.cell? ⟨b, 0, none⟩ = some (.int .u64 a0) ∧ w.cell? ⟨b, 1, none⟩ = some (.int .u64 a1) ∧ w.cell? ⟨b, 2, none⟩ = some (.int .u64 a2) ∧ w.cell? ⟨b, 3, none⟩ = some (.int .u64 a3) ∧
    w.cell? ⟨b, 4, none⟩ = some (.int .u64 a4) ∧ w.cell? ⟨b, 5, none⟩ = some (.int .u64 a5) ∧ w.cell? ⟨b, 6, none⟩ = some (.int .u64 a6) ∧ w.cell? ⟨b, 7, none⟩ = some (.int .u64 a7) :=
  ⟨h.cell 0 (by simp), h.cell 1 (by simp), h.cell 2 (by simp), h.cell 3 (by simp), h.cell 4 (by simp), h.cell 5 (by simp), h.cell 6 (by simp), h.cell 7 (by simp)⟩

set_option maxHeartbeats 2000000 in
theorem signed_any (neg : Bool) (v : Nat) (w : World) (hv : v < 18446744073709551616 ^ 8) :
    Calls Tryd.prog 44 #[.bool neg, .agg (mag (lm v))] w (RetInt w (sgn neg v)) := by
  have HV := Lib.hid hv
  have HN := Lib.hid (sgn_nz neg v)
  have HA := Lib.hid (sgn_abs neg v)
  generalize sgn neg v = z at *
  have HD := digits_any v
  obtain ⟨a0, a1, a2, a3, a4, a5, a6, a7, he⟩ := list8 (lm_len v)
  have h8 : (lm v).length = 8 := lm_len v
  have HI := fun w => isZero_any (lm v) w (lm_len v)
  simp only [lm_isZero v hv] at HI
  rw [he] at HD HI h8 ⊢
  have HD := Lib.hid HD
  have HI := Lib.hid HI
  obtain ⟨hv0, hv1, hbW, hsz⟩ := boxes2 w 56 24 (mag [a0, a1, a2, a3, a4, a5, a6, a7]) #[.bool false, .slice none 0 0]
  clear he hv
  go_enter Tryd.func44, Tryd.ntmps44
  go_wp2_with fail
  generalize (w.alloc (.cells (mag [a0, a1, a2, a3, a4, a5, a6, a7]) 56)).alloc (.cells #[.bool false, .slice none 0 0] 24) = W at *
  obtain ⟨k0, k1, k2, k3, k4, k5, k6, k7⟩ := box8 hv0
  have HB := Lib.hid hv0
  have HVR := Lib.hid hv1
  have HW := Lib.hid hbW
  have hlt : w.heap.size < W.heap.size := by omega
  have hlt1 : w.heap.size + 1 < W.heap.size := by omega
  clear hv0 hv1 hbW
  cases neg
  · go_region_law (first | (go_simp; go_at_call 68; refine (HD.out _ HV.out).mono ?_; rintro e w1 ⟨⟨A, c, rfl, q1, q2, q3⟩, hq⟩; have hc := undrew hq; have hvr := HVR.out.below hc hlt1; have s0 := hvr.cell 0; have s1 := hvr.cell 1; have t0 := hvr.free 0; have t1 := hvr.free 1; simp only [List.getElem?_toArray, List.getElem?_cons_succ, List.getElem?_cons_zero] at s0 s1))
    all_goals
      have hi := dig_int q1 q2 q3 HA.out
      rw [HN.out] at hi
      have HX := Lib.hid (retInt_store hi hvr (HW.out.trans (hc.mono (Nat.le_of_lt hlt))) (Nat.le_succ _))
      clear hi hvr q3
      go_wp2
      exact bodyPost_ret (by simp [results, Tryd.results44, go_sem, s0, s1]) rfl HX.out
  · go_region_law (first | (go_simp; go_at_call 57; refine (HI.out _).mono ?_; rintro e w0 ⟨rfl, hq0⟩; have hc0 := undrew hq0; obtain ⟨j0, j1, j2, j3, j4, j5, j6, j7⟩ := box8 (HB.out.below hc0 hlt)) | (go_simp; go_at_call 68; refine (HD.out _ HV.out).mono ?_; rintro e w1 ⟨⟨A, c, rfl, q1, q2, q3⟩, hq⟩; have hc := hc0.trans (hq.mono hc0.size); have hvr := HVR.out.below hc hlt1; have s0 := hvr.cell 0; have s1 := hvr.cell 1; have t0 := hvr.free 0; have t1 := hvr.free 1; simp only [List.getElem?_toArray, List.getElem?_cons_succ, List.getElem?_cons_zero] at s0 s1))
    all_goals
      have hi := dig_int q1 q2 q3 HA.out
      rw [HN.out] at hi
      have HX := Lib.hid (retInt_store hi hvr (HW.out.trans (hc.mono (Nat.le_of_lt hlt))) (Nat.le_succ _))
      clear hi hvr q3
      go_wp2
      exact bodyPost_ret (by simp [results, Tryd.results44, go_sem, s0, s1]) rfl HX.out

theorem signed_lm (neg : Bool) (v : Nat) (xs : List Int) (w : World) (hv : v < 18446744073709551616 ^ 8) (hx : xs = lm v) :
    Calls Tryd.prog 44 #[.bool neg, .agg (mag xs)] w (RetInt w (sgn neg v)) := by subst hx; exact signed_any neg v w hv
end Go.Proofs.YtnkklmbmodkogaaDoor

/-! M4 -/
namespace Go.Proofs.YtnkklmbmodkogaaDoor
open Go.RowKit

set_option maxHeartbeats 1000000 in
theorem checked_ok (neg : Bool) (v : Nat) (w : World) (hv : v < 18446744073709551616 ^ 8) :
    Calls Tryd.prog 51 #[.bool neg, .agg (mag (lm v)), .bool true] w (RetIntE w (sgn neg v) 0) := by
  have HV := Lib.hid hv
  obtain ⟨hv0, hv1, hbW, hsz⟩ := boxes2 w 56 24 (mag (lm v)) #[.bool false, .slice none 0 0]
  have hbx : Box _ _ _ (lm v) := hv0
  clear hv hv0
  go_enter Tryd.func51, Tryd.ntmps51
  go_wp2_with (first | (refine ldm rfl _ rfl _ rfl _ hbx (lm_len v) ?_) | (go_at_call 44; refine (signed_any neg v _ HV.out).mono ?_; rintro e w1 ⟨⟨x1, rfl, hi⟩, hq⟩; obtain ⟨f2, A2, n2, c2, rfl, hi3, hf2, hn2⟩ := hi.look; clear hf2 hn2; have hvr := Var.below hv1 hq (by omega); have s0 := hvr.cell 0; have s1 := hvr.cell 1; have t0 := hvr.free 0; have t1 := hvr.free 1; simp only [List.getElem?_toArray, List.getElem?_cons_succ, List.getElem?_cons_zero] at s0 s1))
  have HX := Lib.hid (retIntE_store (er := 0) hi3 hvr (hbW.trans (hq.mono (by omega))) (Nat.le_succ _))
  exact bodyPost_ret (v := .tuple #[.agg #[.bool f2, .slice A2 n2 c2], .int .i64 0]) (by simp [results, Tryd.results51, go_sem, s0, s1]) rfl HX.out
set_option maxHeartbeats 400000 in
theorem checked_full (neg : Bool) (v : Nat) (w : World) :
    Calls Tryd.prog 51 #[.bool neg, .agg (mag (lm v)), .bool false] w (RetIntE w 0 7) := by
  obtain ⟨hv0, hv1, hbW, hsz⟩ := boxes2 w 56 24 (mag (lm v)) #[.bool false, .slice none 0 0]
  have hX := Lib.hid (show RetIntE w 0 7 _ _ from ⟨⟨_, rfl, intIs_zero _ _⟩, hbW⟩)
  clear hv0 hv1 hbW hsz
  go_enter Tryd.func51, Tryd.ntmps51
  go_wp2
  exact bodyPost_ret (v := .tuple #[.agg #[.bool false, .slice none 0 0], .int .i64 7]) (by simp [results, Tryd.results51, go_sem]) rfl hX.out
theorem checked_any (neg : Bool) (v : Nat) (ok : Bool) (xs : List Int) (w : World) (hv : v < 18446744073709551616 ^ 8) (hx : xs = lm v) :
    Calls Tryd.prog 51 #[.bool neg, .agg (mag xs), .bool ok] w (RetIntE w (if ok then sgn neg v else 0) (if ok then 0 else 7)) := by
  subst hx
  cases ok
  · exact checked_full neg v w
  · exact checked_ok neg v w hv

/-- The words of a small number. -/
theorem lm_small (u : Nat) (h : u < 18446744073709551616) : lm u = [(u : Int), 0, 0, 0, 0, 0, 0, 0] := by
  have h0 : limb u 0 = u := by unfold limb; rw [Nat.pow_zero, Nat.div_one, Nat.mod_eq_of_lt h]
  have hk : ∀ k, 0 < k → limb u k = 0 := fun k hk => limb_zero u k (Nat.lt_of_lt_of_le h (by rw [← Nat.pow_one 18446744073709551616, ← Nat.pow_mul]; exact Nat.pow_le_pow_right (by omega) (by omega)))
  simp [lm, List.range_succ, h0, hk]
theorem wrap_u64 (n : Int) : IntKind.u64.wrap n = n % 18446744073709551616 := by
  simp [IntKind.wrap, IntKind.bits, IntKind.signed]
theorem small_lt (n : Nat) (h : n < 18446744073709551616) : n < 18446744073709551616 ^ 8 := Nat.lt_of_lt_of_le h (by decide)
set_option maxHeartbeats 400000 in
theorem of_num (n : Int) (w : World) (h0 : -9223372036854775808 ≤ n) (h1 : n ≤ 9223372036854775807) :
    Calls Tryd.prog 25 #[.int .i64 n] w (RetInt w n) := by
  have hW := below_alloc w (.cells #[.bool false, .slice none 0 0] 24)
  have hv := Var.new w 24 #[.bool false, .slice none 0 0]
  have HS := Lib.hid (small_lt n.natAbs (by omega))
  have HL := Lib.hid (lm_small n.natAbs (by omega)).symm
  have E0 := Lib.hid (sgn_self n)
  by_cases hn : n < 0
  · have E1 := E0.out
    rw [show decide (n < 0) = true from decide_eq_true hn] at E1
    have E2 := Lib.hid E1
    have hw : IntKind.u64.wrap (-IntKind.u64.wrap n) = (n.natAbs : Int) := by rw [wrap_u64, wrap_u64]; omega
    clear E1
    go_enter Tryd.func25, Tryd.ntmps25
    go_wp2_with (go_at_call 44; refine (signed_lm _ n.natAbs [(n.natAbs : Int), 0, 0, 0, 0, 0, 0, 0] _ HS.out HL.out).mono ?_; rintro e w1 ⟨⟨x1, rfl, hi⟩, hq⟩; rw [E2.out] at hi; obtain ⟨f2, A2, n2, c2, rfl, hi3, hf2, hn2⟩ := hi.look; clear hf2 hn2; have hvr := hv.below hq (by simp); have s0 := hvr.cell 0; have s1 := hvr.cell 1; have t0 := hvr.free 0; have t1 := hvr.free 1; simp only [List.getElem?_toArray, List.getElem?_cons_succ, List.getElem?_cons_zero] at s0 s1)
    have HX := Lib.hid (retInt_store hi3 hvr (hW.trans (hq.mono (by simp))) (Nat.le_refl _))
    exact bodyPost_ret (by simp [results, Tryd.results25, go_sem, s0, s1]) rfl HX.out
  · have E1 := E0.out
    rw [show decide (n < 0) = false from decide_eq_false hn] at E1
    have E2 := Lib.hid E1
    have hw : IntKind.u64.wrap n = (n.natAbs : Int) := by rw [wrap_u64]; omega
    have hn0 : 0 ≤ n := by omega
    clear E1 hn
    go_enter Tryd.func25, Tryd.ntmps25
    go_wp2_with (go_at_call 44; refine (signed_lm _ n.natAbs [(n.natAbs : Int), 0, 0, 0, 0, 0, 0, 0] _ HS.out HL.out).mono ?_; rintro e w1 ⟨⟨x1, rfl, hi⟩, hq⟩; rw [E2.out] at hi; obtain ⟨f2, A2, n2, c2, rfl, hi3, hf2, hn2⟩ := hi.look; clear hf2 hn2; have hvr := hv.below hq (by simp); have s0 := hvr.cell 0; have s1 := hvr.cell 1; have t0 := hvr.free 0; have t1 := hvr.free 1; simp only [List.getElem?_toArray, List.getElem?_cons_succ, List.getElem?_cons_zero] at s0 s1)
    have HX := Lib.hid (retInt_store hi3 hvr (hW.trans (hq.mono (by simp))) (Nat.le_refl _))
    exact bodyPost_ret (by simp [results, Tryd.results25, go_sem, s0, s1]) rfl HX.out
end Go.Proofs.YtnkklmbmodkogaaDoor

/-! S1 -/
namespace Go.Proofs.YtnkklmbmodkogaaDoor
open Go.RowKit

theorem step_ext {ops : Array Oper} {o : Oper} {a : Act} {w : World} {K : Act → World → Prop} {Q : Exit → Act → World → Prop} {E : Prop} (hg : o.guard = none) (f : FuncId) (x y z : Operand) (T T' T'' : TypeId)
    (hop : o.op = Op.call { callee := Callee.value (Operand.func f), args := #[x, y, z], argTypes := #[T, T', T''] }) (X Y Z r : Value) (hx : a.eval x = X) (hy : a.eval y = Y) (hz : a.eval z = Z)
    (hrun : (callFunc f #[X, Y, Z]).run Tryd.prog w = .ok (.value r) w) (hK : K (a.put o.dst r) w) :
    if Region.wanted o (yielded ops a.tmps) = true then Oper.wp Tryd.prog o a w K Q else E := by
  have hw : Region.wanted o (yielded ops a.tmps) = true := by simp [Region.wanted, hg]
  rw [if_pos hw]
  have hf : a.eval (Operand.func f) = .func (.func f) #[] #[] := rfl
  have ea : (#[] ++ #[X, Y, Z] ++ #[] : Array Value) = #[X, Y, Z] := rfl
  unfold Oper.wp execOp
  simp only [hop, resolve, Deferred.ofValue, invoke, Sem.run_bind, Sem.run_pure, Result.andThen_ok, List.map_toArray, List.map_cons, List.map_nil, hx, hy, hz, hf, ea, hrun]
  exact hK
end Go.Proofs.YtnkklmbmodkogaaDoor

/-! M5 -/
namespace Go.Proofs.YtnkklmbmodkogaaDoor
open Go.RowKit

/-- The first k words are done. -/
def mixl (f g : Nat → Int) (k : Nat) : List Int := (List.range 8).map fun j => if j < k then f j else g j
@[simp] theorem mixl_len (f g : Nat → Int) (k : Nat) : (mixl f g k).length = 8 := by simp [mixl]
theorem mixl_get (f g : Nat → Int) (k j : Nat) (h : j < 8) (hk : k ≤ j) : (mixl f g k)[j]?.getD 0 = g j := by simp [mixl, h]; omega
theorem mixl_set (f g : Nat → Int) (k : Nat) (v : Int) (h : v = f k) : (mixl f g k).set k v = mixl f g (k + 1) := by
  subst h
  apply List.ext_getElem
  · simp
  · intro j h1 h2
    simp only [List.length_set, mixl_len] at h1
    rw [List.getElem_set]
    simp only [mixl, List.getElem_map, List.getElem_range]
    split
    · subst j; rw [if_pos (by omega)]
    · by_cases hj : j < k
      · rw [if_pos hj, if_pos (by omega)]
      · rw [if_neg hj, if_neg (by omega)]
theorem mixl_zero (f g : Nat → Int) : mixl f g 0 = (List.range 8).map g := by simp [mixl]
theorem mixl_all (f g : Nat → Int) : mixl f g 8 = (List.range 8).map f := by
  unfold mixl
  apply List.map_congr_left
  intro j hj
  rw [if_pos (List.mem_range.1 hj)]
def carW (u v k : Nat) : Int := (((u % 18446744073709551616 ^ k + v % 18446744073709551616 ^ k) / 18446744073709551616 ^ k : Nat) : Int)
theorem carW_b (u v k : Nat) : 0 ≤ carW u v k ∧ carW u v k ≤ 1 := by
  have hp : 0 < 18446744073709551616 ^ k := Nat.pow_pos (by omega)
  have h1 := Nat.mod_lt u hp
  have h2 := Nat.mod_lt v hp
  have : (u % 18446744073709551616 ^ k + v % 18446744073709551616 ^ k) / 18446744073709551616 ^ k ≤ 1 := by
    have : (u % 18446744073709551616 ^ k + v % 18446744073709551616 ^ k) / 18446744073709551616 ^ k < 2 := Nat.div_lt_of_lt_mul (by omega)
    omega
  unfold carW; exact ⟨Int.natCast_nonneg _, Int.ofNat_le.2 this⟩
theorem carW_zero (u v : Nat) : carW u v 0 = 0 := by unfold carW; simp only [Nat.pow_zero, Nat.mod_one]; rfl
theorem add_limb (u v k : Nat) : lo64 (limb u k + limb v k + carW u v k) = limb (u + v) k ∧ hi64 (limb u k + limb v k + carW u v k) = carW u v (k + 1) := by
  unfold limb carW lo64 hi64
  rw [add_digit u v 18446744073709551616 k (by omega), add_carry u v 18446744073709551616 k (by omega)]
  omega
/-- At most 512 bits. -/
def fits (n : Nat) : Bool := decide (n < 18446744073709551616 ^ 8)
theorem fits_iff (n : Nat) : fits n = true ↔ n < 18446744073709551616 ^ 8 := by simp only [fits, decide_eq_true_eq]
theorem carW_end (u v : Nat) (hu : u < 18446744073709551616 ^ 8) (hv : v < 18446744073709551616 ^ 8) : (carW u v 8 == 0) = fits (u + v) := by
  unfold carW fits
  rw [Nat.mod_eq_of_lt hu, Nat.mod_eq_of_lt hv]
  generalize (18446744073709551616 : Nat) ^ 8 = P at *
  by_cases h : u + v < P
  · rw [Nat.div_eq_of_lt h]; simp [h]
  · have : 0 < (u + v) / P := Nat.div_pos (by omega) (by omega)
    simp only [h, decide_false, beq_eq_false_iff_ne]
    omega

theorem asAddr_run (g : Nat) (w : World) : (asAddr (.pointer (some ⟨g, 0, none⟩))).run Tryd.prog w = .ok ⟨g, 0, none⟩ w := rfl
theorem res_mag_tmp {fn : Func} {p q : Tmp} (h : fn.results = #[.cell p 56, .tmp q]) (tmps : Array Value) (w : World) (g : Nat) (xs : List Int) (r : Value)
    (hp : tmps.getD p undef = .pointer (some ⟨g, 0, none⟩)) (hq : tmps.getD q undef = r) (hb : Box w g 56 xs) (h8 : xs.length = 8) : (results fn tmps).run Tryd.prog w = .ok (.tuple #[.agg (mag xs), r]) w := by
  rw [results_cell_tmp h, hp, hq, asAddr_run]
  simp only [Result.andThen_ok]
  rw [run_loadVar_row (P := Tryd.prog) w g 56 56 (mag xs) (0, 0) _ hb Tryd.underlying56 rfl (info8 xs h8)]
  rfl

set_option maxRecDepth 100000 in
set_option maxHeartbeats 1000000 in
theorem add_mag (u v : Nat) (w : World) (hu : u < 18446744073709551616 ^ 8) (hv : v < 18446744073709551616 ^ 8) :
    Calls Tryd.prog 58 #[.agg (mag (lm u)), .agg (mag (lm v))] w fun e w' => e = .returned (.tuple #[.agg (mag (lm (u + v))), .bool (fits (u + v))]) ∧ Below w.heap.size w w' := by
  have HE := Lib.hid (carW_end u v hu hv)
  clear hu hv
  obtain ⟨hv0, hv1, hv2, hbW, hsz⟩ := boxes3 w 56 56 56 (mag (lm u)) (mag (lm v)) (mag [0, 0, 0, 0, 0, 0, 0, 0])
  rw [zero8] at hv2 hv1 hv0 hbW hsz
  go_enter Tryd.func58, Tryd.ntmps58
  go_wp2
  generalize ((w.alloc (.cells (mag (lm u)) 56)).alloc (.cells (mag (lm v)) 56)).alloc (.cells #[.int .u64 0, .int .u64 0, .int .u64 0, .int .u64 0, .int .u64 0, .int .u64 0, .int .u64 0, .int .u64 0] 56) = W at *
  have HW := Lib.hid hbW
  have hb1 : Box W (w.heap.size + 1) 56 (lm v) := hv1
  have hlt : w.heap.size + 2 < W.heap.size := by omega
  go_loopw [6, 7, 8] (fun c _ i wr => ∃ k : Nat, k ≤ 8 ∧ i = .int .i64 k ∧ c = .int .u64 (carW u v k) ∧ Box wr w.heap.size 56 (mixl (limb (u + v)) (limb u) k) ∧ Box wr (w.heap.size + 1) 56 (lm v) ∧ Box wr (w.heap.size + 2) 56 [0, 0, 0, 0, 0, 0, 0, 0] ∧ Below w.heap.size W wr) (fun _ _ i _ => 8 - (intOf i).toNat)
  case atStart => exact ⟨0, by omega, rfl, by rw [carW_zero], by rw [mixl_zero]; exact hv0, hb1, hv2, Below.refl _ _⟩
  case round =>
    obtain ⟨k, hk, rfl, rfl, hx, hy, hz, hbl⟩ := hrel
    by_cases g1 : k < 8
    · have c1 := hx.cell k (by simpa using g1)
      rw [mixl_get _ _ _ _ g1 (Nat.le_refl _)] at c1
      have c2 := hy.cell k (by simpa using g1)
      rw [lm_get v k g1] at c2
      have z1 := hx.free k
      obtain ⟨l0, l1⟩ := limb_w u k
      obtain ⟨m0, m1⟩ := limb_w v k
      obtain ⟨n0, n1⟩ := carW_b u v k
      obtain ⟨e1, e2⟩ := add_limb u v k
      have hadd : ∀ W : World, (callFunc 77 #[.int .u64 (limb u k), .int .u64 (limb v k), .int .u64 (carW u v k)]).run Tryd.prog W = .ok (.value (.tuple #[.int .u64 (limb (u + v) k), .int .u64 (carW u v (k + 1))])) W := fun W => by
        rw [add64 _ _ _ l0 m0 n0 n1 W, e1, e2]
      have HADD := Lib.hid hadd
      clear hadd
      have hX := hx.set_ k (limb (u + v) k)
      rw [mixl_set _ _ _ _ rfl] at hX
      have HX := Lib.hid hX
      have HY := Lib.hid (hy.far (p := ⟨w.heap.size, k, none⟩) (by simp) (.int .u64 (limb (u + v) k)))
      have HZ := Lib.hid (hz.far (p := ⟨w.heap.size, k, none⟩) (by simp) (.int .u64 (limb (u + v) k)))
      have HB := Lib.hid (hbl.setCell (p := ⟨w.heap.size, k, none⟩) (Nat.le_refl _) (.int .u64 (limb (u + v) k)))
      clear hx hy hz hbl hX e1 e2 hv0 hv1 hv2 hb1 hbW
      have gI : (k : Int) < 8 := by omega
      go_wp2
      go_region_law (refine step_ext rfl 77 (.tmp 15) (.tmp 18) (.tmp 19) _ _ _ rfl (.int .u64 (limb u k)) (.int .u64 (limb v k)) (.int .u64 (carW u v k)) (.tuple #[.int .u64 (limb (u + v) k), .int .u64 (carW u v (k + 1))]) (by simp [Act.eval]) (by simp [Act.eval]) (by simp [Act.eval]) (HADD.out _) ?_)
      all_goals
        go_wp2
        go_roundw
        case rel => exact ⟨k + 1, by omega, by go_num, rfl, HX.out, HY.out, HZ.out, HB.out.drew⟩
        case measure => simp [intOf]; omega
    · obtain rfl : k = 8 := by omega
      rw [mixl_all] at hx
      have HX := Lib.hid (show Box wr w.heap.size 56 (lm (u + v)) from hx)
      have HZ := Lib.hid hz
      have HB := Lib.hid (HW.out.trans hbl)
      have HB2 := Lib.hid (below_setRow (g := w.heap.size + 2) (cs := mag (lm (u + v))) HB.out (by omega))
      clear hx hy hz hbl hv0 hv1 hv2 hb1 hbW
      have he := HE.out
      go_wp2_with (first | (refine ldm rfl _ rfl _ rfl _ HX.out (lm_len _) ?_) | (refine stm rfl _ _ rfl _ rfl _ _ rfl HZ.out (lm_len _) rfl ?_))
      exact bodyPost_ret (res_mag_tmp rfl _ _ (w.heap.size + 2) (lm (u + v)) (.bool (fits (u + v))) rfl rfl HZ.out.setRow (lm_len _)) rfl ⟨rfl, HB2.out⟩
end Go.Proofs.YtnkklmbmodkogaaDoor

/-! M6 -/
namespace Go.Proofs.YtnkklmbmodkogaaDoor
open Go.RowKit

def bW (u v k : Nat) : Int := ((borN 18446744073709551616 u v k : Nat) : Int)
theorem bW_b (u v k : Nat) : 0 ≤ bW u v k ∧ bW u v k ≤ 1 := by have := borN_01 18446744073709551616 u v k; unfold bW; omega
theorem bW_zero (u v : Nat) : bW u v 0 = 0 := by unfold bW; rw [borN_zero]; rfl
theorem sub_limb (u v k : Nat) (h : v ≤ u) : lo64 (limb u k - limb v k - bW u v k) = limb (u - v) k ∧ bor (limb u k) (limb v k + bW u v k) = bW u v (k + 1) := by
  obtain ⟨h1, h2⟩ := sub_digit u v 18446744073709551616 k (by omega) h
  have h3 := borN_01 18446744073709551616 u v k
  unfold limb bW lo64 bor
  rw [h2, borN_succ 18446744073709551616 u v k (by omega)]
  constructor
  · omega
  · split <;> split <;> omega

set_option maxRecDepth 100000 in
set_option maxHeartbeats 1000000 in
theorem sub_mag (u v : Nat) (w : World) (hvu : v ≤ u) :
    Calls Tryd.prog 59 #[.agg (mag (lm u)), .agg (mag (lm v))] w fun e w' => e = .returned (.agg (mag (lm (u - v)))) ∧ Below w.heap.size w w' := by
  obtain ⟨hv0, hv1, hv2, hbW, hsz⟩ := boxes3 w 56 56 56 (mag (lm u)) (mag (lm v)) (mag [0, 0, 0, 0, 0, 0, 0, 0])
  rw [zero8] at hv2 hv1 hv0 hbW hsz
  go_enter Tryd.func59, Tryd.ntmps59
  go_wp2
  generalize ((w.alloc (.cells (mag (lm u)) 56)).alloc (.cells (mag (lm v)) 56)).alloc (.cells #[.int .u64 0, .int .u64 0, .int .u64 0, .int .u64 0, .int .u64 0, .int .u64 0, .int .u64 0, .int .u64 0] 56) = W at *
  have HW := Lib.hid hbW
  have hb1 : Box W (w.heap.size + 1) 56 (lm v) := hv1
  have hlt : w.heap.size + 2 < W.heap.size := by omega
  go_loopw [5, 6, 7] (fun c _ i wr => ∃ k : Nat, k ≤ 8 ∧ i = .int .i64 k ∧ c = .int .u64 (bW u v k) ∧ Box wr w.heap.size 56 (mixl (limb (u - v)) (limb u) k) ∧ Box wr (w.heap.size + 1) 56 (lm v) ∧ Box wr (w.heap.size + 2) 56 [0, 0, 0, 0, 0, 0, 0, 0] ∧ Below w.heap.size W wr) (fun _ _ i _ => 8 - (intOf i).toNat)
  case atStart => exact ⟨0, by omega, rfl, by rw [bW_zero], by rw [mixl_zero]; exact hv0, hb1, hv2, Below.refl _ _⟩
  case round =>
    obtain ⟨k, hk, rfl, rfl, hx, hy, hz, hbl⟩ := hrel
    by_cases g1 : k < 8
    · have c1 := hx.cell k (by simpa using g1)
      rw [mixl_get _ _ _ _ g1 (Nat.le_refl _)] at c1
      have c2 := hy.cell k (by simpa using g1)
      rw [lm_get v k g1] at c2
      have z1 := hx.free k
      obtain ⟨l0, l1⟩ := limb_w u k
      obtain ⟨m0, m1⟩ := limb_w v k
      obtain ⟨n0, n1⟩ := bW_b u v k
      obtain ⟨e1, e2⟩ := sub_limb u v k hvu
      have hadd : ∀ W : World, (callFunc 78 #[.int .u64 (limb u k), .int .u64 (limb v k), .int .u64 (bW u v k)]).run Tryd.prog W = .ok (.value (.tuple #[.int .u64 (limb (u - v) k), .int .u64 (bW u v (k + 1))])) W := fun W => by
        rw [sub64 _ _ _ l0 m0 m1 n0 n1 W, e1, e2]
      have HADD := Lib.hid hadd
      clear hadd
      have hX := hx.set_ k (limb (u - v) k)
      rw [mixl_set _ _ _ _ rfl] at hX
      have HX := Lib.hid hX
      have HY := Lib.hid (hy.far (p := ⟨w.heap.size, k, none⟩) (by simp) (.int .u64 (limb (u - v) k)))
      have HZ := Lib.hid (hz.far (p := ⟨w.heap.size, k, none⟩) (by simp) (.int .u64 (limb (u - v) k)))
      have HB := Lib.hid (hbl.setCell (p := ⟨w.heap.size, k, none⟩) (Nat.le_refl _) (.int .u64 (limb (u - v) k)))
      clear hx hy hz hbl hX e1 e2 hv0 hv1 hv2 hb1 hbW
      have gI : (k : Int) < 8 := by omega
      go_wp2
      go_region_law (refine step_ext rfl 78 (.tmp 14) (.tmp 17) (.tmp 18) _ _ _ rfl (.int .u64 (limb u k)) (.int .u64 (limb v k)) (.int .u64 (bW u v k)) (.tuple #[.int .u64 (limb (u - v) k), .int .u64 (bW u v (k + 1))]) (by simp [Act.eval]) (by simp [Act.eval]) (by simp [Act.eval]) (HADD.out _) ?_)
      all_goals
        go_wp2
        go_roundw
        case rel => exact ⟨k + 1, by omega, by go_num, rfl, HX.out, HY.out, HZ.out, HB.out.drew⟩
        case measure => simp [intOf]; omega
    · obtain rfl : k = 8 := by omega
      rw [mixl_all] at hx
      have HX := Lib.hid (show Box wr w.heap.size 56 (lm (u - v)) from hx)
      have HZ := Lib.hid hz
      have HB := Lib.hid (HW.out.trans hbl)
      have HB2 := Lib.hid (below_setRow (g := w.heap.size + 2) (cs := mag (lm (u - v))) HB.out (by omega))
      clear hx hy hz hbl hv0 hv1 hv2 hb1 hbW
      go_wp2_with (first | (refine ldm rfl _ rfl _ rfl _ HX.out (lm_len _) ?_) | (refine stm rfl _ _ rfl _ rfl _ _ rfl HZ.out (lm_len _) rfl ?_))
      exact bodyPost_ret (res_mag rfl _ _ (w.heap.size + 2) (lm (u - v)) rfl HZ.out.setRow (lm_len _)) rfl ⟨rfl, HB2.out⟩
end Go.Proofs.YtnkklmbmodkogaaDoor

/-! M7 -/
namespace Go.Proofs.YtnkklmbmodkogaaDoor
open Go.RowKit

def cmpI (x y : Int) : Int := if x < y then -1 else if y < x then 1 else 0
theorem isNaN_u (x : Int) (w : World) : Calls Tryd.prog 108 #[.int .u64 x] w fun e w' => e = .returned (.bool false) ∧ w = w' := by
  go_enter Tryd.func108, Tryd.ntmps108
  go_wp2
  go_ret
  exact ⟨by simp, rfl⟩
set_option maxHeartbeats 400000 in
theorem cmp_u64 (x y : Int) (w : World) : Calls Tryd.prog 90 #[.int .u64 x, .int .u64 y] w fun e w' => e = .returned (.int .i64 (cmpI x y)) ∧ w = w' := by
  rcases Int.lt_trichotomy x y with h | h | h
  · have E := Lib.hid (show cmpI x y = -1 by unfold cmpI; rw [if_pos h])
    have hD : decide (x < y) = true := by simp [h]
    clear h
    go_enter Tryd.func90, Tryd.ntmps90
    go_wp2_with (go_at_call 108; refine (isNaN_u _ _).mono ?_; rintro e w' ⟨rfl, rfl⟩)
    go_ret
    exact ⟨ret_i E.out.symm, rfl⟩
  · subst h
    have E := Lib.hid (show cmpI x x = 0 by unfold cmpI; simp)
    have hD : decide (x < x) = false := by simp
    go_enter Tryd.func90, Tryd.ntmps90
    go_wp2_with (go_at_call 108; refine (isNaN_u _ _).mono ?_; rintro e w' ⟨rfl, rfl⟩)
    go_ret
    exact ⟨ret_i E.out.symm, rfl⟩
  · have E := Lib.hid (show cmpI x y = 1 by unfold cmpI; rw [if_neg (by omega), if_pos h])
    have hD : decide (x < y) = false := by simp; omega
    have hD2 : decide (y < x) = true := by simp [h]
    clear h
    go_enter Tryd.func90, Tryd.ntmps90
    go_wp2_with (go_at_call 108; refine (isNaN_u _ _).mono ?_; rintro e w' ⟨rfl, rfl⟩)
    go_ret
    exact ⟨ret_i E.out.symm, rfl⟩

theorem limb_ne_cmp {u v k : Nat} (h : u / 18446744073709551616 ^ (k + 1) = v / 18446744073709551616 ^ (k + 1)) (hk : k = 0 ∨ limb u k ≠ limb v k) : cmpN u v = cmpI (limb u k) (limb v k) := by
  rcases Int.lt_trichotomy (limb u k) (limb v k) with hl | hl | hl
  · rw [cmpN_lt (high_lt h (by unfold limb at hl; omega))]; unfold cmpI; rw [if_pos hl]
  · rcases hk with rfl | hk
    · have := high_step h (by unfold limb at hl; omega)
      simp only [Nat.pow_zero, Nat.div_one] at this
      rw [cmpN_eq this, hl]; unfold cmpI; simp
    · exact absurd hl hk
  · rw [cmpN_gt (high_lt h.symm (by unfold limb at hl; omega))]; unfold cmpI; rw [if_neg (by omega), if_pos hl]

set_option maxRecDepth 100000 in
set_option maxHeartbeats 1000000 in
theorem compare_mag (u v : Nat) (w : World) (hu : u < 18446744073709551616 ^ 8) (hv : v < 18446744073709551616 ^ 8) :
    Calls Tryd.prog 72 #[.agg (mag (lm u)), .agg (mag (lm v))] w fun e w' => e = .returned (.int .i64 (cmpN u v)) ∧ Below w.heap.size w w' := by
  have hH := Lib.hid (show u / 18446744073709551616 ^ (7 + 1) = v / 18446744073709551616 ^ (7 + 1) by rw [Nat.div_eq_of_lt hu, Nat.div_eq_of_lt hv])
  clear hu hv
  obtain ⟨hv0, hv1, hbW, hsz⟩ := boxes2 w 56 56 (mag (lm u)) (mag (lm v))
  have HW := Lib.hid hbW
  go_enter Tryd.func72, Tryd.ntmps72
  go_wp2
  generalize (w.alloc (.cells (mag (lm u)) 56)).alloc (.cells (mag (lm v)) 56) = W at *
  have hb0 : Box W w.heap.size 56 (lm u) := hv0
  have hb1 : Box W (w.heap.size + 1) 56 (lm v) := hv1
  have hlt : w.heap.size + 1 < W.heap.size := by omega
  clear hv0 hv1 hbW
  go_loopw [5] (fun i wr => ∃ k : Nat, k ≤ 7 ∧ i = .int .i64 k ∧ Hid (u / 18446744073709551616 ^ (k + 1) = v / 18446744073709551616 ^ (k + 1)) ∧ Below W.heap.size W wr) (fun i _ => (intOf i).toNat)
  case atStart => exact ⟨7, by omega, rfl, hH, Below.refl _ _⟩
  case round =>
    obtain ⟨k, hk, rfl, hh, hbl⟩ := hrel
    have b0 := hb0.below hbl (by omega)
    have b1 := hb1.below hbl (by omega)
    have c0 := b0.cell k (by simp; omega)
    have c1 := b1.cell k (by simp; omega)
    rw [lm_get _ k (by omega)] at c0 c1
    have HB := Lib.hid (HW.out.trans (hbl.mono (by omega)))
    have HBl := Lib.hid hbl
    clear b0 b1 hbl
    by_cases h0 : 0 < k
    · have hI0 : (0 : Int) < k := by omega
      have hI8 : (k : Int) < 8 := by omega
      by_cases e : limb u k = limb v k
      · have hE : (limb u k != limb v k) = false := by simp [e]
        have hS := Lib.hid (high_step hh.out (by unfold limb at e; omega))
        have HE := Lib.hid e
        clear e
        go_wp2
        go_quiet (fail)
        go_wp2
        go_roundw
        case rel => exact ⟨k - 1, by omega, vi (by omega), by rw [show k - 1 + 1 = k from by omega]; exact hS, below_drewN HBl.out _⟩
        case measure => simp [intOf]; omega
      · have hE : (limb u k != limb v k) = true := by simp [e]
        have hS := Lib.hid (limb_ne_cmp hh.out (.inr e))
        clear e
        go_wp2
        go_quiet (fail)
        go_wp2
        go_region_law (go_simp; go_at_call 90; refine (cmp_u64 _ _ _).mono ?_; rintro e w' ⟨rfl, rfl⟩)
        all_goals
          go_wp2
          go_ret
          exact ⟨ret_i hS.out.symm, by first | exact (below_drewN HB.out _).drew | exact below_drewN HB.out _⟩
    · obtain rfl : k = 0 := by omega
      have hS := Lib.hid (limb_ne_cmp hh.out (.inl rfl))
      go_wp2_with (first | (go_at_call 90; refine (cmp_u64 _ _ _).mono ?_; rintro e w' ⟨rfl, rfl⟩))
      go_ret
      exact ⟨ret_i hS.out.symm, HB.out⟩
end Go.Proofs.YtnkklmbmodkogaaDoor

/-! NumW -/
namespace Go.Proofs.YtnkklmbmodkogaaDoor
open Go.RowKit

def lw (v n : Nat) : List Int := (List.range n).map (limb v)
@[simp] theorem lw_len (v n : Nat) : (lw v n).length = n := by simp [lw]
theorem lw_get (v n k : Nat) (h : k < n) : (lw v n)[k]?.getD 0 = limb v k := by simp [lw, h]
theorem lw_lm (v : Nat) : lw v 8 = lm v := rfl

/-- One digit is set. -/
theorem limb_addW_ge (X y j k : Nat) (h : j < k) (hX : X / 18446744073709551616 ^ j % 18446744073709551616 = 0) (hy : y < 18446744073709551616) : limb (X + y * 18446744073709551616 ^ j) k = limb X k := by
  have hp : 0 < 18446744073709551616 ^ j := Nat.pow_pos (by omega)
  obtain ⟨d, rfl⟩ : ∃ d, k = j + 1 + d := ⟨k - j - 1, by omega⟩
  have e : ∀ Z : Nat, Z / 18446744073709551616 ^ (j + 1 + d) = Z / 18446744073709551616 ^ j / 18446744073709551616 / 18446744073709551616 ^ d := fun Z => by rw [Nat.pow_add, Nat.pow_succ, ← Nat.div_div_eq_div_mul, ← Nat.div_div_eq_div_mul]
  unfold limb
  rw [e, e, Nat.add_mul_div_right _ _ hp, show (X / 18446744073709551616 ^ j + y) / 18446744073709551616 = X / 18446744073709551616 ^ j / 18446744073709551616 by omega]
theorem limb_addW_lt (X y j k : Nat) (h : k < j) : limb (X + y * 18446744073709551616 ^ j) k = limb X k := by
  have hp : 0 < 18446744073709551616 ^ k := Nat.pow_pos (by omega)
  obtain ⟨d, rfl⟩ : ∃ d, j = k + 1 + d := ⟨j - k - 1, by omega⟩
  have e : y * 18446744073709551616 ^ (k + 1 + d) = 18446744073709551616 ^ k * (18446744073709551616 * (y * 18446744073709551616 ^ d)) := by rw [Nat.pow_add, Nat.pow_succ]; ac_rfl
  unfold limb
  rw [e, Nat.add_mul_div_left _ _ hp, Nat.add_mul_mod_self_left]
theorem limb_addW_eq (X y j : Nat) (hX : X / 18446744073709551616 ^ j % 18446744073709551616 = 0) (hy : y < 18446744073709551616) : limb (X + y * 18446744073709551616 ^ j) j = (y : Int) := by
  have hp : 0 < 18446744073709551616 ^ j := Nat.pow_pos (by omega)
  unfold limb
  rw [Nat.add_mul_div_right _ _ hp]
  omega
/-- X without its digit j. -/
def holeW (X j : Nat) : Nat := X - X / 18446744073709551616 ^ j % 18446744073709551616 * 18446744073709551616 ^ j
theorem holeW_le (X j : Nat) : X / 18446744073709551616 ^ j % 18446744073709551616 * 18446744073709551616 ^ j ≤ X := by
  have h1 := Nat.mod_le (X / 18446744073709551616 ^ j) 18446744073709551616
  have h2 := Nat.div_mul_le_self X (18446744073709551616 ^ j)
  exact Nat.le_trans (Nat.mul_le_mul_right _ h1) h2
theorem holeW_add (X j : Nat) : holeW X j + X / 18446744073709551616 ^ j % 18446744073709551616 * 18446744073709551616 ^ j = X := by have := holeW_le X j; unfold holeW; omega
theorem holw_zero (X j : Nat) : holeW X j / 18446744073709551616 ^ j % 18446744073709551616 = 0 := by
  have hp : 0 < 18446744073709551616 ^ j := Nat.pow_pos (by omega)
  have h := congrArg (· / 18446744073709551616 ^ j) (holeW_add X j)
  simp only [Nat.add_mul_div_right _ _ hp] at h
  omega
theorem lw_set (X N j y : Nat) (hy : y < 18446744073709551616) : (lw X N).set j (y : Int) = lw (holeW X j + y * 18446744073709551616 ^ j) N := by
  apply List.ext_getElem
  · simp
  · intro k h1 h2
    simp only [List.length_set, lw_len] at h1
    have hX := holw_zero X j
    have hb : X / 18446744073709551616 ^ j % 18446744073709551616 < 18446744073709551616 := Nat.mod_lt _ (by omega)
    rw [List.getElem_set]
    simp only [lw, List.getElem_map, List.getElem_range]
    split
    · subst j; rw [limb_addW_eq _ _ _ hX hy]
    · have hXX : limb X k = limb (holeW X j + X / 18446744073709551616 ^ j % 18446744073709551616 * 18446744073709551616 ^ j) k := by rw [holeW_add]
      rw [hXX]
      rcases Nat.lt_or_ge k j with h | h
      · rw [limb_addW_lt _ _ _ _ h, limb_addW_lt _ _ _ _ h]
      · rw [limb_addW_ge _ _ _ _ (by omega) hX hb, limb_addW_ge _ _ _ _ (by omega) hX hy]

theorem holeW_hi (X j y : Nat) (hy : y < 18446744073709551616) : (holeW X j + y * 18446744073709551616 ^ j) / 18446744073709551616 ^ (j + 1) = X / 18446744073709551616 ^ (j + 1) := by
  have hp : 0 < 18446744073709551616 ^ j := Nat.pow_pos (by omega)
  have h0 := holw_zero X j
  have hb : X / 18446744073709551616 ^ j % 18446744073709551616 < 18446744073709551616 := Nat.mod_lt _ (by omega)
  have key : ∀ z, z < 18446744073709551616 → (holeW X j + z * 18446744073709551616 ^ j) / 18446744073709551616 ^ (j + 1) = holeW X j / 18446744073709551616 ^ j / 18446744073709551616 := by
    intro z hz
    rw [div_pow_succ, Nat.add_mul_div_right _ _ hp]
    omega
  rw [key y hy, ← key _ hb, holeW_add]
theorem holeW_lt {X N j y : Nat} (hX : X < 18446744073709551616 ^ N) (hj : j < N) (hy : y < 18446744073709551616) : holeW X j + y * 18446744073709551616 ^ j < 18446744073709551616 ^ N := by
  have hp : 0 < 18446744073709551616 ^ (j + 1) := Nat.pow_pos (by omega)
  have e : (18446744073709551616 : Nat) ^ N = 18446744073709551616 ^ (N - (j + 1)) * 18446744073709551616 ^ (j + 1) := by rw [← Nat.pow_add]; congr 1; omega
  rw [e] at hX ⊢
  rw [← Nat.div_lt_iff_lt_mul hp] at hX ⊢
  rwa [holeW_hi X j y hy]
theorem holeW_small {X j : Nat} (h : X < 18446744073709551616 ^ j) : holeW X j = X := by unfold holeW; rw [Nat.div_eq_of_lt h]; simp

/-- The rows of a product: c is the carry, X what stands there. -/
def TimesInvW (u v i k X c : Nat) : Prop := X + c * 18446744073709551616 ^ (i + k) = u % 18446744073709551616 ^ i * v + 18446744073709551616 ^ i * (u / 18446744073709551616 ^ i % 18446744073709551616 * (v % 18446744073709551616 ^ k))
theorem times_stepW {u v i k X c : Nat} (h : TimesInvW u v i k X c) :
    TimesInvW u v i (k + 1) (holeW X (i + k) + (X / 18446744073709551616 ^ (i + k) % 18446744073709551616 + u / 18446744073709551616 ^ i % 18446744073709551616 * (v / 18446744073709551616 ^ k % 18446744073709551616) + c) % 18446744073709551616 * 18446744073709551616 ^ (i + k)) ((X / 18446744073709551616 ^ (i + k) % 18446744073709551616 + u / 18446744073709551616 ^ i % 18446744073709551616 * (v / 18446744073709551616 ^ k % 18446744073709551616) + c) / 18446744073709551616) := by
  unfold TimesInvW at h ⊢
  have hh := holeW_add X (i + k)
  generalize holeW X (i + k) = H at *
  generalize X / 18446744073709551616 ^ (i + k) % 18446744073709551616 = d at *
  rw [mod_pow_succ' v 18446744073709551616 k]
  generalize u / 18446744073709551616 ^ i % 18446744073709551616 = a at *
  generalize v / 18446744073709551616 ^ k % 18446744073709551616 = b at *
  generalize v % 18446744073709551616 ^ k = V at *
  generalize u % 18446744073709551616 ^ i * v = U at *
  rw [show i + (k + 1) = (i + k) + 1 from by omega, Nat.pow_succ]
  have e1 : (d + a * b + c) % 18446744073709551616 * 18446744073709551616 ^ (i + k) + (d + a * b + c) / 18446744073709551616 * (18446744073709551616 ^ (i + k) * 18446744073709551616) = (d + a * b + c) * 18446744073709551616 ^ (i + k) := by
    have := Nat.mod_add_div (d + a * b + c) 18446744073709551616
    calc _ = ((d + a * b + c) % 18446744073709551616 + 18446744073709551616 * ((d + a * b + c) / 18446744073709551616)) * 18446744073709551616 ^ (i + k) := by rw [Nat.add_mul]; ac_rfl
      _ = _ := by rw [this]
  have e2 : 18446744073709551616 ^ i * (a * (V + 18446744073709551616 ^ k * b)) = 18446744073709551616 ^ i * (a * V) + a * b * 18446744073709551616 ^ (i + k) := by
    rw [Nat.pow_add, Nat.mul_add, Nat.mul_add]; ac_rfl
  rw [e2, Nat.add_assoc, e1, ← Nat.add_assoc, ← h, ← hh, Nat.add_mul, Nat.add_mul]
  omega
theorem times_firstW (u v i : Nat) : TimesInvW u v i 0 (u % 18446744073709551616 ^ i * v) 0 := by unfold TimesInvW; simp [Nat.mod_one]
theorem times_lastW {u v i m X c : Nat} (h : TimesInvW u v i m X c) (hv : v < 18446744073709551616 ^ m) : X + c * 18446744073709551616 ^ (i + m) = u % 18446744073709551616 ^ (i + 1) * v := by
  unfold TimesInvW at h
  rw [h, Nat.mod_eq_of_lt hv, mod_pow_succ', Nat.add_mul]
  ac_rfl
theorem times_boundW {_u _v i m X c : Nat} (hX : X < 18446744073709551616 ^ (i + m)) (hc : c < 18446744073709551616) : X + c * 18446744073709551616 ^ (i + m) < 18446744073709551616 ^ (i + 1 + m) := by
  have e : (18446744073709551616 : Nat) ^ (i + 1 + m) = 18446744073709551616 * 18446744073709551616 ^ (i + m) := by rw [show i + 1 + m = (i + m) + 1 from by omega, Nat.pow_succ, Nat.mul_comm]
  have : c * 18446744073709551616 ^ (i + m) ≤ 18446744073709551615 * 18446744073709551616 ^ (i + m) := Nat.mul_le_mul_right _ (by omega)
  omega
theorem times_row_boundW {u v i m : Nat} (hv : v < 18446744073709551616 ^ m) : u % 18446744073709551616 ^ i * v < 18446744073709551616 ^ (i + m) := by
  rw [Nat.pow_add]
  exact Nat.mul_lt_mul_of_lt_of_le (Nat.mod_lt _ (Nat.pow_pos (by omega))) (Nat.le_of_lt hv) (Nat.lt_of_le_of_lt (Nat.zero_le _) hv)
theorem lw_zero (N : Nat) : lw 0 N = List.replicate N 0 := by
  apply List.ext_getElem
  · simp
  · intro k h1 h2; simp [lw, limb]
end Go.Proofs.YtnkklmbmodkogaaDoor

/-! Fill -/
namespace Go.Proofs.YtnkklmbmodkogaaDoor
open Go.RowKit

/-- A fresh variable, filled. -/
theorem fill_new (w : World) (xs : List Int) : Box (w.alloc (.cells #[.int .u64 0, .int .u64 0, .int .u64 0, .int .u64 0, .int .u64 0, .int .u64 0, .int .u64 0, .int .u64 0] 56)) w.heap.size 56 [0, 0, 0, 0, 0, 0, 0, 0] ∧
    Box ((w.alloc (.cells #[.int .u64 0, .int .u64 0, .int .u64 0, .int .u64 0, .int .u64 0, .int .u64 0, .int .u64 0, .int .u64 0] 56)).setRow w.heap.size (mag xs)) w.heap.size 56 xs ∧
    Below w.heap.size w ((w.alloc (.cells #[.int .u64 0, .int .u64 0, .int .u64 0, .int .u64 0, .int .u64 0, .int .u64 0, .int .u64 0, .int .u64 0] 56)).setRow w.heap.size (mag xs)) := by
  have h : Box (w.alloc (.cells #[.int .u64 0, .int .u64 0, .int .u64 0, .int .u64 0, .int .u64 0, .int .u64 0, .int .u64 0, .int .u64 0] 56)) w.heap.size 56 [0, 0, 0, 0, 0, 0, 0, 0] := heap_alloc_new w _
  exact ⟨h, h.setRow, below_setRow (below_alloc w _) (Nat.le_refl _)⟩
end Go.Proofs.YtnkklmbmodkogaaDoor
