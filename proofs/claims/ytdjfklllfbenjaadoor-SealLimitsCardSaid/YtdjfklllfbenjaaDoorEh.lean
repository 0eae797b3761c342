/- The law's own functions: key, nonce, refused; conversions back to strings. -/
import Derived.Test.YtdjfklllfbenjaaDoorEg
import Derived.Test.YtdjfklllfbenjaaDoorBz
namespace Go.Proofs.YtdjfklllfbenjaaDoor
open Go.RowKit

/-- The bytes of a literal. -/
theorem lit_part (w : World) (ds : List Int) (n : Nat) (fr : Nat × Nat) (C : Array Value) (hC : C = u8s ds) (hn : ds.length = n) : PartAt (w.alloc (.cells C 5 fr)) (w.alloc (.cells C 5 fr)).heap.size (.slice (some ⟨w.heap.size, 0, none⟩) n n) ds := by
  subst hC hn
  have e1 : (w.alloc (.cells (u8s ds) 5 fr)).heap.size = w.heap.size + 1 := by simp
  refine ⟨_, _, rfl, Nat.le_refl _, fun h0 => ⟨w.heap.size, 0, rfl, by omega, by omega, fun k hk => ?_⟩⟩
  rw [Nat.zero_add, cell_of_row _ w.heap.size k _ 5 fr (heap_alloc_new w _)]
  simp [u8s, at_, hk]
/-- make([]byte, n), owned. -/
theorem makeBO {ops : Array Oper} {rest : List Oper} {o : Oper} {a : Act} {Q : Exit → Act → World → Prop} {w : World}
    (hgd : o.guard = none) (l c : Operand) (T : TypeId) (ho : o.op = Op.makeSlice T l c) (hT : Tryd.prog.underlying T = some (.slice 5)) (n : Nat) (L C : Int)
    (hl : a.eval l = .int .i64 L) (hc : a.eval c = .int .i64 C) (hL : L = (n : Int)) (hC : C = (n : Int)) (hn : n < 1000000000000)
    (h : ∀ w', Own w' w.heap.size (.slice (some ⟨w.heap.size, 0, none⟩) n n) (List.replicate n 0) → Below w.heap.size w w' → wpList Tryd.prog ops Q rest (a.put o.dst (.slice (some ⟨w.heap.size, 0, none⟩) n n)) w') : wpList Tryd.prog ops Q (o :: rest) a w := by
  obtain ⟨i0, hi, hz0, hz1, hz2⟩ := info_parts infoZU8
  refine wpList_make_full w hgd l c T ho w.heap.size 5 i0 (.int .u8 0) 1 hT hi hz0 hz1 .i64 .i64 L C n hl hc hL hC (by rw [hz2]; omega) (by unfold maxLen; omega) (Nat.le_refl _) fun w' h1 h2 => ?_
  have e : (madeCells (Value.cells (.int .u8 0)) (n * 1)).toList = (List.replicate n (0 : Int)).map (Value.int .u8) := by
    rw [Nat.mul_one]
    exact (toList_madeCells_one (.int .u8 0) n).trans (by simp)
  rw [e] at h1
  refine h w' ?_ ((Below.refl w.heap.size w).grown h2 (Nat.le_refl _) fun k hk => by cases hk)
  unfold Own
  rw [List.length_replicate]
  exact h1
/-! ### key -/
def padL (b : List Int) (i : Nat) : List Int := (List.range 32).map fun k => if k < i then at_ b k else 0
theorem padL_len (b : List Int) (i : Nat) : (padL b i).length = 32 := by simp [padL]
theorem padL_zero (b : List Int) : padL b 0 = List.replicate 32 0 := by simp [padL]; decide
theorem padL_set (b : List Int) (i : Nat) : (padL b i).set i (at_ b i) = padL b (i + 1) := by
  apply List.ext_getElem
  · simp [padL]
  · intro j h1 h2
    rw [List.getElem_set]
    simp only [padL, List.getElem_map, List.getElem_range]
    split
    · subst i; rw [if_pos (by omega)]
    · split <;> split <;> first | rfl | omega
def keyOf (b : List Int) : List Int := padL b (min b.length 32)
theorem keyOf_len (b : List Int) : (keyOf b).length = 32 := padL_len _ _
theorem keyOf_by {b : List Int} (h : Bys8 b) : Bys8 (keyOf b) := by
  intro x hx
  obtain ⟨i, -, rfl⟩ := List.mem_map.1 hx
  show By (if i < min b.length 32 then at_ b i else 0)
  split
  · exact h.at_ i
  · exact ⟨by decide, by decide⟩
set_option maxRecDepth 100000 in
set_option maxHeartbeats 2000000 in
theorem key_any (A : Option Addr) (n c : Nat) (bd : List Int) (w : World) (hn : bd.length = n) (hb : PartAt w w.heap.size (.slice A n c) bd) :
    Calls Tryd.prog 33 #[.slice A n c] w fun e w' => (∃ g, e = .returned (.slice (some ⟨g, 0, none⟩) 32 32) ∧ Own w' w.heap.size (.slice (some ⟨g, 0, none⟩) 32 32) (keyOf bd)) ∧ Below w.heap.size w w' := by
  have HB := Lib.hid hb
  have HN := Lib.hid hn
  clear hb hn
  go_enter Tryd.func33, Tryd.ntmps33
  go_upto_region 2 with (refine makeBO rfl _ _ _ rfl Tryd.underlying22 32 _ _ rfl rfl rfl rfl (by omega) ?_; intro w1 o1 b1)
  have O1 : Hid (Own w1 w.heap.size (.slice (some ⟨w.heap.size, 0, none⟩) 32 32) (padL bd 0)) := Lib.hid (by rw [padL_zero]; exact o1)
  have B1 := Lib.hid b1
  clear o1 b1
  go_wp2_with (fail)
  go_loopw [4] (fun i wx => ∃ k : Nat, k ≤ 32 ∧ k ≤ n ∧ i = .int .i64 k ∧ Hid (Own wx w.heap.size (.slice (some ⟨w.heap.size, 0, none⟩) 32 32) (padL bd k)) ∧ Hid (Below w.heap.size w wx)) (fun i _ => 32 - (intOf i).toNat)
  case atStart => exact ⟨0, by omega, by omega, rfl, O1, B1⟩
  case round =>
    obtain ⟨k, hk, hkn, rfl, ho, hbl⟩ := hrel
    clear O1 B1
    by_cases g : k < n
    · have gI : (k : Int) < n := by omega
      by_cases g2 : k < 32
      · have gJ : (k : Int) < 32 := by omega
        obtain ⟨b, o, rfl, hbl2, hc⟩ := (HB.out.later hbl.out hbl.out.size).cell_ (by rw [HN.out]; omega)
        have c0 := hc k (by rw [HN.out]; exact g)
        have f2 := ho.out.freeAt k
        have c2 := ho.out.cellAt (j := k) (by rw [padL_len]; exact g2)
        have HO2 := Lib.hid (ho.out.set_ (j := k) (at_ bd k))
        rw [padL_set] at HO2
        have HB2 : Hid (Below w.heap.size w (wr.setCell ⟨w.heap.size, k, none⟩ (.int .u8 (at_ bd k)))) := Lib.hid (hbl.out.setCell (Nat.le_refl _) _)
        generalize at_ bd k = u1 at *
        generalize at_ (padL bd k) k = u2 at *
        clear ho hbl hc hbl2
        go_wp2_with (fail)
        exact ⟨⟨k + 1, by omega, by omega, by go_num, HO2, HB2⟩, by simp [intOf]; omega⟩
      · obtain rfl : k = 32 := by omega
        have HK : Hid (padL bd 32 = keyOf bd) := Lib.hid (by unfold keyOf; rw [HN.out, Nat.min_eq_right (by omega)])
        rw [HK.out] at ho
        go_wp2_with (fail)
        go_ret
        exact ⟨⟨_, rfl, ho.out⟩, hbl.out⟩
    · obtain rfl : k = n := by omega
      have HK : Hid (padL bd k = keyOf bd) := Lib.hid (by unfold keyOf; rw [HN.out, Nat.min_eq_left (by omega)])
      rw [HK.out] at ho
      go_wp2_with (fail)
      go_ret
      exact ⟨⟨_, rfl, ho.out⟩, hbl.out⟩
set_option maxRecDepth 100000 in
theorem nonce_any (A : Option Addr) (n c : Nat) (bd : List Int) (w : World) (hn : bd.length = n) (hb : PartAt w w.heap.size (.slice A n c) bd) :
    Calls Tryd.prog 34 #[.slice A n c] w fun e w' => (∃ g, e = .returned (.slice (some ⟨g, 0, none⟩) 16 32) ∧ PartAt w' w'.heap.size (.slice (some ⟨g, 0, none⟩) 16 32) ((keyOf bd).take 16)) ∧ Below w.heap.size w w' := by
  have HC := Lib.hid (key_any A n c bd w hn hb)
  clear hn hb
  go_enter Tryd.func34, Tryd.ntmps34
  go_wp2_with (fail)
  refine HC.out.mono ?_
  rintro e w1 ⟨⟨g, rfl, o1⟩, b1⟩
  have P1 := Lib.hid (Own.take_part o1.part (keyOf_len _) (show 16 ≤ 32 by omega))
  have B1 := Lib.hid b1
  clear o1 b1 HC
  go_wp2_with (fail)
  go_ret
  exact ⟨⟨g, rfl, P1.out⟩, B1.out⟩
theorem refused_any (A : Option Addr) (n c : Nat) (x y : Int) (b : Bool) (w : World) (hb : b = decide (n = 0 ∧ x = y)) :
    Calls Tryd.prog 25 #[.slice A n c, .int .i64 x, .int .i64 y] w fun e w' => e = .returned (.bool b) ∧ w' = w := by
  by_cases g : n = 0
  · subst g
    by_cases g2 : x = y
    · subst g2
      obtain rfl : b = true := by rw [hb]; simp
      clear hb
      go_enter Tryd.func25, Tryd.ntmps25
      go_wp2_with (fail)
      go_ret
      exact ⟨rfl, rfl⟩
    · obtain rfl : b = false := by rw [hb]; simp [g2]
      clear hb
      go_enter Tryd.func25, Tryd.ntmps25
      go_wp2_with (fail)
      go_ret
      exact ⟨by show Ending.returned (.bool (decide (x = y))) = _; rw [decide_eq_false g2], rfl⟩
  · obtain rfl : b = false := by rw [hb]; simp [g]
    have g1 : ¬ (n : Int) = 0 := by omega
    clear hb
    go_enter Tryd.func25, Tryd.ntmps25
    go_wp2_with (fail)
    go_ret
    exact ⟨rfl, rfl⟩
end Go.Proofs.YtdjfklllfbenjaaDoor
