/- Package blake: bytesOf. -/
import Derived.Test.YtdjfklllfbenjaaDoorBe0
namespace Go.Proofs.YtdjfklllfbenjaaDoor
open Go.RowKit

def byteAt (s : List Int) (i : Nat) : Int := at_ s (i / 4) / 256 ^ (i % 4) % 256
def bytesL (s : List Int) : List Int := (List.range 32).map (byteAt s)
def bytesTo (s : List Int) (n : Nat) : List Int := (List.range 32).map fun i => if i < n then byteAt s i else 0
theorem bytesL_len (s : List Int) : (bytesL s).length = 32 := by simp [bytesL]
theorem bytesTo_len (s : List Int) (n : Nat) : (bytesTo s n).length = 32 := by simp [bytesTo]
theorem bytesTo_all (s : List Int) : bytesTo s 32 = bytesL s := by
  unfold bytesTo bytesL
  apply List.map_congr_left
  intro i hi
  rw [if_pos (by simpa using hi)]
theorem bytesTo_set (s : List Int) (k : Nat) : (bytesTo s k).set k (byteAt s k) = bytesTo s (k + 1) := by
  apply List.ext_getElem
  · simp [bytesTo]
  · intro j h1 h2
    rw [List.getElem_set]
    simp only [bytesTo, List.getElem_map, List.getElem_range]
    split
    · subst k; rw [if_pos (by omega)]
    · split <;> split <;> first | rfl | omega
def z32 : List Int := List.replicate 32 0
theorem bytesTo_zero (s : List Int) : bytesTo s 0 = z32 := by simp [bytesTo, z32]; decide
theorem u8s_z32 : u8s z32 = #[.int .u8 0, .int .u8 0, .int .u8 0, .int .u8 0, .int .u8 0, .int .u8 0, .int .u8 0, .int .u8 0, .int .u8 0, .int .u8 0, .int .u8 0, .int .u8 0, .int .u8 0, .int .u8 0, .int .u8 0, .int .u8 0, .int .u8 0, .int .u8 0, .int .u8 0, .int .u8 0, .int .u8 0, .int .u8 0, .int .u8 0, .int .u8 0, .int .u8 0, .int .u8 0, .int .u8 0, .int .u8 0, .int .u8 0, .int .u8 0, .int .u8 0, .int .u8 0] := rfl
theorem info32 (xs : List Int) (h : xs.length = 32) : (Tryd.prog.info? 24).map (·.size) = some (u8s xs).size := by
  rw [u8s_size, h]; kernel_rfl
theorem ld32 {ops : Array Oper} {rest : List Oper} {o : Oper} {a : Act} {w : World} {Q : Exit → Act → World → Prop} (hgd : o.guard = none) (x : Operand) (ho : o.op = .load 24 x)
    (g : Nat) (hx : a.eval x = .pointer (some ⟨g, 0, none⟩)) (xs : List Int) (hb : U8 w g 24 xs) (h8 : xs.length = 32)
    (h : wpList Tryd.prog ops Q rest (a.put o.dst (.agg (u8s xs))) w) : wpList Tryd.prog ops Q (o :: rest) a w :=
  wpList_load_row hgd 24 x ho g hx 24 (u8s xs) (0, 0) _ hb Tryd.underlying24 rfl (info32 xs h8) h
theorem st32 {ops : Array Oper} {rest : List Oper} {o : Oper} {a : Act} {w : World} {Q : Exit → Act → World → Prop} (hgd : o.guard = none) (x y : Operand) (ho : o.op = .store 24 x y)
    (g : Nat) (hx : a.eval x = .pointer (some ⟨g, 0, none⟩)) (ys xs : List Int) (hy : a.eval y = .agg (u8s xs)) (hb : U8 w g 24 ys) (h8 : xs.length = 32) (h8' : ys.length = 32)
    (h : wpList Tryd.prog ops Q rest (a.put o.dst undef) (w.setRow g (u8s xs))) : wpList Tryd.prog ops Q (o :: rest) a w :=
  wpList_store_row hgd 24 x y ho g (u8s xs) hx hy 24 (u8s ys) hb (info32 xs h8) (by rw [u8s_size, u8s_size, h8, h8']) (u8s_one xs) h
theorem res_32 {fn : Func} {p : Tmp} (h : fn.results = #[.cell p 24]) (tmps : Array Value) (w : World) (g : Nat) (xs : List Int)
    (hp : tmps.getD p undef = .pointer (some ⟨g, 0, none⟩)) (hb : U8 w g 24 xs) (h8 : xs.length = 32) : (results fn tmps).run Tryd.prog w = .ok (.agg (u8s xs)) w :=
  results_cell_row (P := Tryd.prog) h tmps w g 24 (u8s xs) (0, 0) _ hp hb Tryd.underlying24 rfl (info32 xs h8)
theorem U8.set_ {w : World} {b : Nat} {T : TypeId} {vs : List Int} (h : U8 w b T vs) (k : Nat) (v : Int) : U8 (w.setCell ⟨b, k, none⟩ (.int .u8 v)) b T (vs.set k v) := by
  unfold U8 at h ⊢
  simp [World.setCell, Array.getElem?_modify, h, u8s, List.map_set]
theorem U8.far {w : World} {b : Nat} {T : TypeId} {vs : List Int} (h : U8 w b T vs) {p : Addr} (hp : b ≠ p.block) (u : Value) : U8 (w.setCell p u) b T vs := (Below.heap_setCell w p u b hp).trans h
theorem U8.below {w w' : World} {b B : Nat} {T : TypeId} {vs : List Int} (h : U8 w b T vs) (hb : Below B w w') (hg : b < B) : U8 w' b T vs := (hb.block b hg).trans h
theorem U8.alloc {w : World} {b : Nat} {T : TypeId} {vs : List Int} (h : U8 w b T vs) (o : Obj) : U8 (w.alloc o) b T vs := (Below.heap_alloc w o b h.lt).trans h
theorem U8.setRow_other {w : World} {g k : Nat} {T : TypeId} {xs : List Int} {cs : Array Value} (h : U8 w k T xs) (hne : k ≠ g) : U8 (w.setRow g cs) k T xs := (Go.setRow_other w g k cs hne).trans h
theorem index_8 (s : List Int) (h8 : s.length = 8) (k : Nat) (hk : k < 8) (W : World) : (Instr.index 67 (.agg (u32s s)) (.int .i64 (k : Int))).run Tryd.prog W = .ok (.int .u32 (at_ s k)) W := by
  have h1 : (0 : Int) ≤ k ∧ (k : Int) < 8 := by omega
  have h2 : (k : Int) < 8 := by omega
  have h3 : k < (u32s s).size := by rw [u32s_size]; omega
  have hg : (u32s s)[k]? = some (.int .u32 (at_ s k)) := by simp [u32s, at_, show k < s.length by omega]
  simp [Instr.index, run_underlying Tryd.underlying67, asIntOf, h1, go_sem, Tryd.sizeOf64, part, hg]
  intro h; omega

set_option maxRecDepth 100000 in
set_option maxHeartbeats 1000000 in
theorem bytesOf_any (s : List Int) (h8 : s.length = 8) (w : World) :
    Calls Tryd.prog 53 #[.agg (u32s s)] w fun e w' => e = .returned (.agg (u8s (bytesL s))) ∧ Below w.heap.size w w' := by
  have H8 := Lib.hid h8
  obtain ⟨n1, n2, n3, n4, n5⟩ := three_new w 67 24 24 (u32s s) (u8s z32) (u8s z32)
  rw [u8s_z32] at n1 n2 n3 n4 n5
  have N1 : Hid (U32 _ _ _ _) := Lib.hid n1
  have N2 := Lib.hid n2
  have N3 := Lib.hid n3
  have N4 := Lib.hid n4
  clear n1 n2 n3 n4 n5 h8
  go_enter Tryd.func53, Tryd.ntmps53
  go_wp2_with (refine ld8 rfl _ rfl _ rfl _ N1.out H8.out ?_)
  generalize hp : w.heap.size = p at *
  go_loopw [4, 5, 6, 8, 12] (fun _ _ _ i _ wr => ∃ k : Nat, k ≤ 8 ∧ i = .int .i64 k ∧ Hid (U8 wr (p + 1 + 1) 24 (bytesTo s (4 * k))) ∧ Hid (U8 wr (p + 1) 24 z32) ∧ Hid (Below p w wr)) (fun _ _ _ i _ _ => 8 - (intOf i).toNat)
  case atStart => exact ⟨0, Nat.zero_le _, rfl, by rw [Nat.mul_zero, bytesTo_zero]; exact N3, N2, N4⟩
  case round =>
    obtain ⟨k, hk, rfl, hx, hr, hb⟩ := hrel
    clear N1 N2 N3 N4
    by_cases g1 : k < 8
    · have gI : (k : Int) < 8 := by omega
      have hix := index_8 s H8.out k g1
      go_wp2_with (fail)
      go_loopw [6, 12] (fun _ i wr => ∃ j : Nat, j ≤ 4 ∧ i = .int .i64 j ∧ Hid (U8 wr (p + 1 + 1) 24 (bytesTo s (4 * k + j))) ∧ Hid (U8 wr (p + 1) 24 z32) ∧ Hid (Below p w wr)) (fun _ i _ => 4 - (intOf i).toNat)
      case atStart => exact ⟨0, Nat.zero_le _, rfl, hx, hr, hb⟩
      case round =>
        obtain ⟨j, hj, rfl, hx, hr, hb⟩ := hrel
        by_cases g2 : j < 4
        · have gJ : (j : Int) < 4 := by omega
          have f0 := hx.out.free (4 * k + j)
          have e0 := hx.out.at_at (k := 4 * k + j) (z := _) (by rw [bytesTo_len]; omega) rfl
          have i1 : (4 : Int) * k + j < 32 := by omega
          have hval : at_ s k / 2 ^ (8 * j) % 256 = byteAt s (4 * k + j) := by
            unfold byteAt
            rw [show (4 * k + j) / 4 = k by omega, show (4 * k + j) % 4 = j by omega, Int.pow_mul]
            rfl
          have HX := Lib.hid (show U8 (wr.setCell ⟨p + 1 + 1, 4 * k + j, none⟩ (.int .u8 (byteAt s (4 * k + j)))) (p + 1 + 1) 24 (bytesTo s (4 * k + (j + 1))) by rw [show 4 * k + (j + 1) = 4 * k + j + 1 by omega, ← bytesTo_set]; exact hx.out.set_ _ _)
          have HR := Lib.hid (show U8 (wr.setCell ⟨p + 1 + 1, 4 * k + j, none⟩ (.int .u8 (byteAt s (4 * k + j)))) (p + 1) 24 z32 from hr.out.far (by show p + 1 ≠ p + 1 + 1; omega) _)
          have HB := Lib.hid (show Below p w (wr.setCell ⟨p + 1 + 1, 4 * k + j, none⟩ (.int .u8 (byteAt s (4 * k + j)))) from hb.out.setCell (by show p ≤ p + 1 + 1; omega) _)
          clear hx hr hb
          go_wp2_with (fail)
          exact ⟨⟨j + 1, by omega, by go_num, HX, HR, HB⟩, by simp [intOf]; omega⟩
        · obtain rfl : j = 4 := by omega
          rw [show 4 * k + 4 = 4 * (k + 1) by omega] at hx
          go_wp2_with (fail)
          go_roundw
          case rel => exact ⟨k + 1, by omega, by go_num, hx, hr, hb⟩
          case measure => simp [intOf]; omega
    · obtain rfl : k = 8 := by omega
      rw [show 4 * 8 = 32 by rfl, bytesTo_all] at hx
      have HB := Lib.hid (below_setRow (g := p + 1) (cs := u8s (bytesL s)) hb.out (by omega))
      go_wp2_with (first | (refine ld32 rfl _ rfl _ rfl _ hx.out (bytesL_len s) ?_) | (refine st32 rfl _ _ rfl _ rfl _ _ rfl hr.out (bytesL_len s) rfl ?_))
      exact bodyPost_ret (res_32 rfl _ _ (p + 1) _ rfl hr.out.setRow (bytesL_len s)) rfl ⟨rfl, by rw [hp]; exact HB.out⟩
end Go.Proofs.YtdjfklllfbenjaaDoor
