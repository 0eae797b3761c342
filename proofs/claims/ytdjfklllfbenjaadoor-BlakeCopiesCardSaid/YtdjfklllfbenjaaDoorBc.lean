/- Package blake: whole rows of words; wordsOf. -/
import Derived.Test.YtdjfklllfbenjaaDoorBa
import Derived.RegionTactic
import Derived.BigRegion
import Derived.Laws.ShiftsVarLaws
namespace Go.Proofs.YtdjfklllfbenjaaDoor
open Go.RowKit

theorem u32s_size (xs : List Int) : (u32s xs).size = xs.length := by simp [u32s]
theorem info8 (xs : List Int) (h : xs.length = 8) : (Tryd.prog.info? 67).map (·.size) = some (u32s xs).size := by
  rw [u32s_size, h]; kernel_rfl
theorem info16 (xs : List Int) (h : xs.length = 16) : (Tryd.prog.info? 84).map (·.size) = some (u32s xs).size := by
  rw [u32s_size, h]; kernel_rfl
theorem u32s_one (xs : List Int) : (u32s xs).all (·.oneCell') = true := by
  simp [u32s, Value.oneCell']
theorem ld16 {ops : Array Oper} {rest : List Oper} {o : Oper} {a : Act} {w : World} {Q : Exit → Act → World → Prop} (hgd : o.guard = none) (x : Operand) (ho : o.op = .load 84 x)
    (g : Nat) (hx : a.eval x = .pointer (some ⟨g, 0, none⟩)) (xs : List Int) (hb : U32 w g 84 xs) (h8 : xs.length = 16)
    (h : wpList Tryd.prog ops Q rest (a.put o.dst (.agg (u32s xs))) w) : wpList Tryd.prog ops Q (o :: rest) a w :=
  wpList_load_row hgd 84 x ho g hx 84 (u32s xs) (0, 0) _ hb Tryd.underlying84 rfl (info16 xs h8) h
theorem st16 {ops : Array Oper} {rest : List Oper} {o : Oper} {a : Act} {w : World} {Q : Exit → Act → World → Prop} (hgd : o.guard = none) (x y : Operand) (ho : o.op = .store 84 x y)
    (g : Nat) (hx : a.eval x = .pointer (some ⟨g, 0, none⟩)) (ys xs : List Int) (hy : a.eval y = .agg (u32s xs)) (hb : U32 w g 84 ys) (h8 : xs.length = 16) (h8' : ys.length = 16)
    (h : wpList Tryd.prog ops Q rest (a.put o.dst undef) (w.setRow g (u32s xs))) : wpList Tryd.prog ops Q (o :: rest) a w :=
  wpList_store_row hgd 84 x y ho g (u32s xs) hx hy 84 (u32s ys) hb (info16 xs h8) (by rw [u32s_size, u32s_size, h8, h8']) (u32s_one xs) h
theorem ld8 {ops : Array Oper} {rest : List Oper} {o : Oper} {a : Act} {w : World} {Q : Exit → Act → World → Prop} (hgd : o.guard = none) (x : Operand) (ho : o.op = .load 67 x)
    (g : Nat) (hx : a.eval x = .pointer (some ⟨g, 0, none⟩)) (xs : List Int) (hb : U32 w g 67 xs) (h8 : xs.length = 8)
    (h : wpList Tryd.prog ops Q rest (a.put o.dst (.agg (u32s xs))) w) : wpList Tryd.prog ops Q (o :: rest) a w :=
  wpList_load_row hgd 67 x ho g hx 67 (u32s xs) (0, 0) _ hb Tryd.underlying67 rfl (info8 xs h8) h
theorem st8 {ops : Array Oper} {rest : List Oper} {o : Oper} {a : Act} {w : World} {Q : Exit → Act → World → Prop} (hgd : o.guard = none) (x y : Operand) (ho : o.op = .store 67 x y)
    (g : Nat) (hx : a.eval x = .pointer (some ⟨g, 0, none⟩)) (ys xs : List Int) (hy : a.eval y = .agg (u32s xs)) (hb : U32 w g 67 ys) (h8 : xs.length = 8) (h8' : ys.length = 8)
    (h : wpList Tryd.prog ops Q rest (a.put o.dst undef) (w.setRow g (u32s xs))) : wpList Tryd.prog ops Q (o :: rest) a w :=
  wpList_store_row hgd 67 x y ho g (u32s xs) hx hy 67 (u32s ys) hb (info8 xs h8) (by rw [u32s_size, u32s_size, h8, h8']) (u32s_one xs) h
theorem U32.setRow {w : World} {g : Nat} {T : TypeId} {xs ys : List Int} (h : U32 w g T xs) : U32 (w.setRow g (u32s ys)) g T ys := setRow_heap w g (u32s xs) (u32s ys) T (0, 0) h
theorem U32.setRow_other {w : World} {g k : Nat} {T : TypeId} {xs : List Int} {cs : Array Value} (h : U32 w k T xs) (hne : k ≠ g) : U32 (w.setRow g cs) k T xs := (Go.setRow_other w g k cs hne).trans h
theorem below_setRow {B : Nat} {a w : World} {g : Nat} {cs : Array Value} (h : Below B a w) (hg : B ≤ g) : Below B a (w.setRow g cs) :=
  ⟨h.os, h.tape, h.output, by rw [size_setRow]; exact h.size, fun k hk => (Go.setRow_other w g k cs (by omega)).trans (h.block k hk)⟩
theorem res_16 {fn : Func} {p : Tmp} (h : fn.results = #[.cell p 84]) (tmps : Array Value) (w : World) (g : Nat) (xs : List Int)
    (hp : tmps.getD p undef = .pointer (some ⟨g, 0, none⟩)) (hb : U32 w g 84 xs) (h8 : xs.length = 16) : (results fn tmps).run Tryd.prog w = .ok (.agg (u32s xs)) w :=
  results_cell_row (P := Tryd.prog) h tmps w g 84 (u32s xs) (0, 0) _ hp hb Tryd.underlying84 rfl (info16 xs h8)
theorem res_8 {fn : Func} {p : Tmp} (h : fn.results = #[.cell p 67]) (tmps : Array Value) (w : World) (g : Nat) (xs : List Int)
    (hp : tmps.getD p undef = .pointer (some ⟨g, 0, none⟩)) (hb : U32 w g 67 xs) (h8 : xs.length = 8) : (results fn tmps).run Tryd.prog w = .ok (.agg (u32s xs)) w :=
  results_cell_row (P := Tryd.prog) h tmps w g 67 (u32s xs) (0, 0) _ hp hb Tryd.underlying67 rfl (info8 xs h8)
theorem kept_cell {B : Nat} {W w : World} (h : Below B W w) {b o : Nat} {v : Value} (hc : W.cell? ⟨b, o, none⟩ = some v) (hb : b < B) : w.cell? ⟨b, o, none⟩ = some v := (h.cell (p := ⟨b, o, none⟩) hb).trans hc
theorem kept_free {B : Nat} {W w : World} (h : Below B W w) {b o : Nat} (hc : W.frozen? ⟨b, o, none⟩ = false) (hb : b < B) : w.frozen? ⟨b, o, none⟩ = false := (h.frozen (p := ⟨b, o, none⟩) hb).trans hc
theorem undrew {B : Nat} {w w' : World} (h : Below B w.drew w') : Below B w w' := ⟨h.os, h.tape, h.output, h.size, h.block⟩
theorem undrewN {B n : Nat} {w w' : World} (h : Below B (w.drewN n) w') : Below B w w' := ⟨h.os, h.tape, h.output, h.size, h.block⟩

/-! ### wordsOf -/
/-- A word of four bytes. -/
def wd4 (a b c d : Int) : Int := bits .or .u32 (bits .or .u32 (bits .or .u32 (a % 4294967296) (b % 4294967296 * 256 % 4294967296)) (c % 4294967296 * 65536 % 4294967296)) (d % 4294967296 * 16777216 % 4294967296)
def wdAt (ds : List Int) (i : Nat) : Int := wd4 (at_ ds (4 * i)) (at_ ds (4 * i + 1)) (at_ ds (4 * i + 2)) (at_ ds (4 * i + 3))
def wordsL (ds : List Int) : List Int := (List.range 16).map (wdAt ds)
def wordsTo (ds : List Int) (k : Nat) : List Int := (List.range 16).map fun i => if i < k then wdAt ds i else 0
theorem wordsL_len (ds : List Int) : (wordsL ds).length = 16 := by simp [wordsL]
theorem wordsTo_len (ds : List Int) (k : Nat) : (wordsTo ds k).length = 16 := by simp [wordsTo]
theorem wordsTo_zero (ds : List Int) : wordsTo ds 0 = [0, 0, 0, 0, 0, 0, 0, 0, 0, 0, 0, 0, 0, 0, 0, 0] := by simp [wordsTo]; decide
theorem wordsTo_all (ds : List Int) : wordsTo ds 16 = wordsL ds := by
  unfold wordsTo wordsL
  apply List.map_congr_left
  intro i hi
  rw [if_pos (by simpa using hi)]
theorem wordsTo_set (ds : List Int) (k : Nat) : (wordsTo ds k).set k (wdAt ds k) = wordsTo ds (k + 1) := by
  apply List.ext_getElem
  · simp [wordsTo]
  · intro j h1 h2
    rw [List.getElem_set]
    simp only [wordsTo, List.getElem_map, List.getElem_range]
    split
    · subst k; rw [if_pos (by omega)]
    · split <;> split <;> first | rfl | omega
theorem zero16 : u32s [0, 0, 0, 0, 0, 0, 0, 0, 0, 0, 0, 0, 0, 0, 0, 0] = #[.int .u32 0, .int .u32 0, .int .u32 0, .int .u32 0, .int .u32 0, .int .u32 0, .int .u32 0, .int .u32 0, .int .u32 0, .int .u32 0, .int .u32 0, .int .u32 0, .int .u32 0, .int .u32 0, .int .u32 0, .int .u32 0] := rfl
theorem two_new (w : World) (T T' : TypeId) (P Q : List Int) : U32 ((w.alloc (.cells (u32s P) T)).alloc (.cells (u32s Q) T')) w.heap.size T P ∧ U32 ((w.alloc (.cells (u32s P) T)).alloc (.cells (u32s Q) T')) (w.heap.size + 1) T' Q ∧ Below w.heap.size w ((w.alloc (.cells (u32s P) T)).alloc (.cells (u32s Q) T')) :=
  ⟨heap_alloc2_old w _ _, heap_alloc2_new w _ _, Go.Proofs.YtdjfklllfbenjaaDoor.Below.next (Below.new w _) (Below.new _ _)⟩

set_option maxHeartbeats 1000000 in
theorem wordsOf_any (b o c : Nat) (ds : List Int) (w : World) (hc : ∀ k, k < 64 → w.cell? ⟨b, o + k, none⟩ = some (.int .u8 (at_ ds k))) (h64 : 64 ≤ c) :
    Calls Tryd.prog 59 #[.slice (some ⟨b, o, none⟩) 64 c] w fun e w' => e = .returned (.agg (u32s (wordsL ds))) ∧ Below w.heap.size w w' := by
  have hlt : b < w.heap.size := block_lt_of_cell (hc 0 (by omega))
  have HC := Lib.hid hc
  obtain ⟨n1, n2, n3⟩ := two_new w 84 84 [0, 0, 0, 0, 0, 0, 0, 0, 0, 0, 0, 0, 0, 0, 0, 0] [0, 0, 0, 0, 0, 0, 0, 0, 0, 0, 0, 0, 0, 0, 0, 0]
  rw [zero16] at n1 n2 n3
  have N1 := Lib.hid n1
  have N2 := Lib.hid n2
  have N3 := Lib.hid n3
  clear hc n1 n2 n3
  go_enter Tryd.func59, Tryd.ntmps59
  go_wp2
  go_loopw [4, 5, 6] (fun _ _ i wr => ∃ k : Nat, k ≤ 16 ∧ i = .int .i64 k ∧ Hid (U32 wr (w.heap.size + 1) 84 (wordsTo ds k)) ∧ Hid (U32 wr w.heap.size 84 [0, 0, 0, 0, 0, 0, 0, 0, 0, 0, 0, 0, 0, 0, 0, 0]) ∧ Hid (Below w.heap.size w wr)) (fun _ _ i _ => 16 - (intOf i).toNat)
  case atStart => exact ⟨0, Nat.zero_le _, rfl, by rw [wordsTo_zero]; exact N2, N1, N3⟩
  case round =>
    obtain ⟨k, hk, rfl, hbox, hres, hbl⟩ := hrel
    clear N1 N2 N3
    by_cases g1 : k < 16
    · have gI : (k : Int) < 16 := by omega
      have c0 := kept_cell hbl.out (HC.out (4 * k) (by omega)) hlt
      have c1 : wr.cell? ⟨b, o + 4 * k + 1, none⟩ = _ := kept_cell hbl.out (HC.out (4 * k + 1) (by omega)) hlt
      have c2 : wr.cell? ⟨b, o + 4 * k + 2, none⟩ = _ := kept_cell hbl.out (HC.out (4 * k + 2) (by omega)) hlt
      have c3 : wr.cell? ⟨b, o + 4 * k + 3, none⟩ = _ := kept_cell hbl.out (HC.out (4 * k + 3) (by omega)) hlt
      have f0 := hbox.out.free k
      have e0 := hbox.out.cell k (by rw [wordsTo_len]; exact g1)
      have hw1 : (4 : Int) * k + 4 ≤ c := by omega
      have HX := Lib.hid (show U32 ((wr.setCell ⟨w.heap.size + 1, k, none⟩ (.int .u32 (wdAt ds k))).drew) (w.heap.size + 1) 84 (wordsTo ds (k + 1)) by rw [← wordsTo_set]; exact hbox.out.set_ k _)
      have HR := Lib.hid (show U32 ((wr.setCell ⟨w.heap.size + 1, k, none⟩ (.int .u32 (wdAt ds k))).drew) w.heap.size 84 _ from hres.out.far (by simp) _)
      have HB := Lib.hid (show Below w.heap.size w ((wr.setCell ⟨w.heap.size + 1, k, none⟩ (.int .u32 (wdAt ds k))).drew) from (hbl.out.setCell (by simp) _).drew)
      clear hbox hres hbl HC
      go_wp2
      go_region
      go_wp2
      go_roundw
      case rel => exact ⟨k + 1, by omega, by go_num, HX, HR, HB⟩
      case measure => simp [intOf]; omega
    · obtain rfl : k = 16 := by omega
      rw [wordsTo_all] at hbox
      have HB := Lib.hid (below_setRow (g := w.heap.size) (cs := u32s (wordsL ds)) hbl.out (Nat.le_refl _))
      go_wp2_with (first | (refine ld16 rfl _ rfl _ rfl _ hbox.out (wordsL_len ds) ?_) | (refine st16 rfl _ _ rfl _ rfl _ _ rfl hres.out (wordsL_len ds) rfl ?_))
      exact bodyPost_ret (res_16 rfl _ _ w.heap.size _ rfl hres.out.setRow (wordsL_len ds)) rfl ⟨rfl, HB.out⟩
end Go.Proofs.YtdjfklllfbenjaaDoor
