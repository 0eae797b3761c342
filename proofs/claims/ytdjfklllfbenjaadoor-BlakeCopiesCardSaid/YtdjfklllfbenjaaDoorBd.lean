/- Package blake: the model of compress; the tables; a row of bytes in a variable; copy into a variable. -/
import Derived.Test.YtdjfklllfbenjaaDoorBb
import Derived.Test.YtdjfklllfbenjaaDoorBc
import Derived.Laws.CopyOwn
namespace Go.Proofs.YtdjfklllfbenjaaDoor
open Go.RowKit

/-! ### compress -/
def iv : List Int := [1779033703, 3144134277, 1013904242, 2773480762, 1359893119, 2600822924, 528734635, 1541459225]
def rowsT : List (List Nat) := [[0, 1, 2, 3, 4, 5, 6, 7, 8, 9, 10, 11, 12, 13, 14, 15], [14, 10, 4, 8, 9, 15, 13, 6, 1, 12, 0, 2, 11, 7, 5, 3], [11, 8, 12, 0, 5, 2, 15, 13, 10, 14, 3, 6, 7, 1, 9, 4], [7, 9, 3, 1, 13, 12, 11, 14, 2, 6, 5, 10, 4, 0, 15, 8], [9, 0, 5, 7, 2, 4, 10, 15, 14, 1, 11, 12, 6, 8, 3, 13], [2, 12, 6, 10, 0, 11, 8, 3, 4, 13, 7, 5, 15, 14, 1, 9], [12, 5, 1, 15, 14, 13, 4, 10, 0, 7, 6, 3, 9, 2, 8, 11], [13, 11, 7, 14, 12, 1, 3, 9, 5, 0, 15, 4, 8, 6, 2, 10], [6, 15, 14, 9, 11, 3, 0, 8, 12, 2, 13, 7, 1, 4, 10, 5], [10, 2, 8, 4, 7, 6, 1, 5, 15, 11, 9, 14, 3, 12, 13, 0]]
def rowV (i j : Nat) : Nat := (rowsT[i]?.getD [])[j]?.getD 0
theorem rowV_lt (i j : Nat) (hi : i < 10) (hj : j < 16) : rowV i j < 16 := by
  have h : ∀ i : Fin 10, ∀ j : Fin 16, rowV i.val j.val < 16 := by decide
  exact h ⟨i, hi⟩ ⟨j, hj⟩
def la (i : Nat) : Nat := [0, 1, 2, 3, 0, 1, 2, 3][i]?.getD 0
def lb (i : Nat) : Nat := [4, 5, 6, 7, 5, 6, 7, 4][i]?.getD 0
def lc (i : Nat) : Nat := [8, 9, 10, 11, 10, 11, 8, 9][i]?.getD 0
def ld (i : Nat) : Nat := [12, 13, 14, 15, 15, 12, 13, 14][i]?.getD 0
def stepsL (ws : List Int) (k : Nat) (v : List Int) : Nat → List Int
  | 0 => v
  | i + 1 => mixL (stepsL ws k v i) (la i) (lb i) (lc i) (ld i) (at_ ws (rowV k (2 * i))) (at_ ws (rowV k (2 * i + 1)))
def roundsL (ws : List Int) (v : List Int) : Nat → List Int
  | 0 => v
  | k + 1 => stepsL ws k (roundsL ws v k) 8
theorem stepsL_len (ws : List Int) (k : Nat) (v : List Int) (i : Nat) : (stepsL ws k v i).length = v.length := by
  induction i with
  | zero => rfl
  | succ i ih => simp only [stepsL, mixL_len, ih]
theorem roundsL_len (ws : List Int) (v : List Int) (k : Nat) : (roundsL ws v k).length = v.length := by
  induction k with
  | zero => rfl
  | succ k ih => simp only [roundsL, stepsL_len, ih]
/-- The sixteen words at the start. -/
def startL (h : List Int) (t mark : Int) : List Int :=
  (((h ++ iv).set 12 (xo (at_ iv 4) (t % 4294967296))).set 13 (xo (at_ iv 5) (t / 4294967296 % 4294967296))).set 14 (xo (at_ iv 6) mark)
def outTo (h v : List Int) (k : Nat) : List Int := (List.range 8).map fun i => if i < k then xo (at_ h i) (xo (at_ v i) (at_ v (8 + i))) else at_ h i
def outL (h v : List Int) : List Int := (List.range 8).map fun i => xo (at_ h i) (xo (at_ v i) (at_ v (8 + i)))
/-- The state after a block of the words ws. -/
def comprL (h ws : List Int) (t mark : Int) : List Int := outL h (roundsL ws (startL h t mark) 10)
theorem comprL_len (h ws : List Int) (t mark : Int) : (comprL h ws t mark).length = 8 := by simp [comprL, outL]
theorem startL_len {h : List Int} (t mark : Int) (h8 : h.length = 8) : (startL h t mark).length = 16 := by simp [startL, h8, iv]
theorem outTo_zero {h : List Int} (v : List Int) (h8 : h.length = 8) : outTo h v 0 = h := by
  apply List.ext_getElem
  · simp [outTo, h8]
  · intro i h1 h2
    simp [outTo, at_, h2]
theorem outTo_all (h v : List Int) : outTo h v 8 = outL h v := by
  unfold outTo outL
  apply List.map_congr_left
  intro i hi
  rw [if_pos (by simpa using hi)]
theorem outTo_at (h v : List Int) (k : Nat) (hk : k < 8) : at_ (outTo h v k) k = at_ h k := by simp [outTo, at_, hk]
theorem outTo_len (h v : List Int) (k : Nat) : (outTo h v k).length = 8 := by simp [outTo]
theorem outTo_set (h v : List Int) (k : Nat) : (outTo h v k).set k (xo (at_ h k) (xo (at_ v k) (at_ v (8 + k)))) = outTo h v (k + 1) := by
  apply List.ext_getElem
  · simp [outTo]
  · intro j h1 h2
    rw [List.getElem_set]
    simp only [outTo, List.getElem_map, List.getElem_range]
    split
    · subst k; rw [if_pos (by omega)]
    · split <;> split <;> first | rfl | omega
/-- The words after the state and k of the initial words. -/
def initTo (h : List Int) (k : Nat) : List Int := h ++ (List.range 8).map fun i => if i < k then at_ iv i else 0
theorem initTo_zero (h : List Int) : initTo h 0 = h ++ [0, 0, 0, 0, 0, 0, 0, 0] := by simp [initTo]; decide
theorem initTo_all (h : List Int) : initTo h 8 = h ++ iv := by unfold initTo; congr 1
theorem initTo_len {h : List Int} (k : Nat) (h8 : h.length = 8) : (initTo h k).length = 16 := by simp [initTo, h8]
theorem initTo_set {h : List Int} (k : Nat) (h8 : h.length = 8) : (initTo h k).set (8 + k) (at_ iv k) = initTo h (k + 1) := by
  unfold initTo
  rw [List.set_append_right _ _ (by omega), show 8 + k - h.length = k by omega]
  congr 1
  apply List.ext_getElem
  · simp
  · intro j h1 h2
    rw [List.getElem_set]
    simp only [List.getElem_map, List.getElem_range]
    split
    · subst k; rw [if_pos (by omega)]
    · split <;> split <;> first | rfl | omega

/-! ### The tables -/
def u8s (ds : List Int) : Array Value := (ds.map (Value.int .u8)).toArray
def rowZ (k : Nat) : List Int := (List.range 16).map fun j => ((rowV k j : Nat) : Int)
def allRows : List Int := (List.range 10).flatMap rowZ
/-- The two tables stand as the program's text lays them. -/
def Tabs (w : World) : Prop := (∃ t fr, w.heap[0]? = some (.cells (u32s iv) t fr)) ∧ (∃ t fr, w.heap[1]? = some (.cells (u8s allRows) t fr))
theorem Tabs.below {B : Nat} {w w' : World} (h : Tabs w) (hb : Below B w w') (hB : 2 ≤ B) : Tabs w' :=
  ⟨h.1.imp fun t => Exists.imp fun fr e => (hb.block 0 (by omega)).trans e, h.2.imp fun t => Exists.imp fun fr e => (hb.block 1 (by omega)).trans e⟩
theorem Tabs.lt {w : World} (h : Tabs w) : 2 ≤ w.heap.size := by
  obtain ⟨-, t, fr, e⟩ := h
  rcases Nat.lt_or_ge 1 w.heap.size with hl | hl
  · exact hl
  · rw [Array.getElem?_eq_none hl] at e; cases e
theorem Tabs.drew {w : World} (h : Tabs w) : Tabs w.drew := h
theorem u8s_size (xs : List Int) : (u8s xs).size = xs.length := by simp [u8s]
theorem u8s_one (xs : List Int) : (u8s xs).all (·.oneCell') = true := by simp [u8s, Value.oneCell']
theorem ldInit {ops : Array Oper} {rest : List Oper} {o : Oper} {a : Act} {w : World} {Q : Exit → Act → World → Prop} (hgd : o.guard = none) (x : Operand) (ho : o.op = .load 67 x)
    (hx : a.eval x = .pointer (some ⟨0, 0, none⟩)) (hb : Tabs w)
    (h : wpList Tryd.prog ops Q rest (a.put o.dst (.agg (u32s iv))) w) : wpList Tryd.prog ops Q (o :: rest) a w := by
  obtain ⟨⟨t, fr, e⟩, -⟩ := hb
  exact wpList_load_row hgd 67 x ho 0 hx t (u32s iv) fr _ e Tryd.underlying67 rfl (info8 iv rfl) h
theorem infoRows : (Tryd.prog.info? 87).map (·.size) = some (u8s allRows).size := by
  rw [u8s_size, show allRows.length = 160 by decide +kernel]; kernel_rfl
theorem ldRows {ops : Array Oper} {rest : List Oper} {o : Oper} {a : Act} {w : World} {Q : Exit → Act → World → Prop} (hgd : o.guard = none) (x : Operand) (ho : o.op = .load 87 x)
    (hx : a.eval x = .pointer (some ⟨1, 0, none⟩)) (hb : Tabs w)
    (h : wpList Tryd.prog ops Q rest (a.put o.dst (.agg (u8s allRows))) w) : wpList Tryd.prog ops Q (o :: rest) a w := by
  obtain ⟨-, t, fr, e⟩ := hb
  exact wpList_load_row hgd 87 x ho 1 hx t (u8s allRows) fr _ e Tryd.underlying87 rfl infoRows h
theorem index_iv (k : Nat) (hk : k < 8) (W : World) : (Instr.index 67 (.agg (u32s iv)) (.int .i64 (k : Int))).run Tryd.prog W = .ok (.int .u32 (at_ iv k)) W := by
  have h1 : (0 : Int) ≤ k ∧ (k : Int) < 8 := by omega
  have h2 : (k : Int) < 8 := by omega
  have h3 : k < (u32s iv).size := by rw [u32s_size]; exact hk
  have hg : (u32s iv)[k]? = some (.int .u32 (at_ iv k)) := by simp [u32s, at_, show k < iv.length from hk]
  simp [Instr.index, run_underlying Tryd.underlying67, asIntOf, h1, go_sem, Tryd.sizeOf64, part, hg]
  intro h; omega
theorem index_rows (k : Nat) (hk : k < 10) (W : World) : (Instr.index 87 (.agg (u8s allRows)) (.int .i64 (k : Int))).run Tryd.prog W = .ok (.agg (u8s (rowZ k))) W := by
  have h1 : (0 : Int) ≤ k ∧ (k : Int) < 10 := by omega
  have h2 : (k : Int) < 10 := by omega
  have hr : (u8s allRows).extract (k * 16) (k * 16 + 16) = u8s (rowZ k) := by
    have h : ∀ i : Fin 10, (allRows.drop (i.val * 16)).take 16 = rowZ i.val := by decide +kernel
    unfold u8s
    rw [List.extract_toArray, List.extract_eq_take_drop, ← List.map_drop, ← List.map_take, show k * 16 + 16 - k * 16 = 16 by omega]
    rw [h ⟨k, hk⟩]
  simp [Instr.index, run_underlying Tryd.underlying87, asIntOf, h1, go_sem, part, hk, hr]
theorem But.setRow_ (p : Nat) (w : World) (cs : Array Value) : But p w (w.setRow p cs) := ⟨rfl, rfl, rfl, by simp [World.setRow], fun i hi _ => Go.setRow_other w p i cs hi⟩
/-- copy into a variable that is known whole, as one step of a region that draws its order. -/
theorem step_copyB {ops : Array Oper} {o : Oper} {a : Act} {w : World} {K : Act → World → Prop} {Q : Exit → Act → World → Prop} {E : Prop} (hgd : o.guard = none) (d s : Operand) (dT sT : TypeId)
    (ho : o.op = .call { callee := .builtin .copy, args := #[d, s], argTypes := #[dT, sT] }) (elem : TypeId) (hu : Tryd.prog.underlying dT = some (.slice elem)) (hsz : (Tryd.prog.info? elem).map (·.size) = some 1)
    (dp sp : Option Addr) (dLen dCap sLen sCap : Nat) (hd : a.eval d = .slice dp dLen dCap) (hs : a.eval s = .slice sp sLen sCap)
    (g off : Nat) (cur : List Value) (t : TypeId) (hg : w.heap[g]? = some (.cells cur.toArray t (0, 0))) (cs : List Value) (hn : cs.length = Nat.min sLen dLen)
    (hpos : 0 < cs.length → dp = some ⟨g, off, none⟩ ∧ ∃ ad, sp = some ad ∧ ∀ j v, cs[j]? = some v → w.cell? (ad.add j) = some v)
    (hfit : off + cs.length ≤ cur.length) (h1 : ∀ v ∈ cs, v.oneCell' = true)
    (h : ∀ w', Hid (w'.heap[g]? = some (.cells (splice cur off cs).toArray t (0, 0))) → But g w w' → K (a.put o.dst (goInt cs.length)) w') :
    if Region.wanted o (yielded ops a.tmps) = true then Oper.wp Tryd.prog o a w K Q else E := by
  have hw : Region.wanted o (yielded ops a.tmps) = true := by simp [Region.wanted, hgd]
  rw [if_pos hw]
  by_cases h0 : cs.length = 0
  · obtain rfl : cs = [] := List.eq_nil_of_length_eq_zero h0
    have hrun := run_copy_none (P := Tryd.prog) w dT sT o.type elem dp sp dLen dCap sLen sCap hu hsz (by simpa using hn.symm)
    unfold Oper.wp
    simp [execOp, ho, resolve, invoke, builtin, hd, hs, hrun, Result.andThen]
    exact h w (show _ = _ by simpa [splice] using hg) (But.refl g w)
  · obtain ⟨rfl, ad, rfl, hsrc⟩ := hpos (by omega)
    have hrun := run_copy_row (P := Tryd.prog) w dT sT o.type elem g off dLen dCap ad sLen sCap cur.toArray t cs hu hsz hg hn hsrc (by simpa using hfit) h1
    unfold Oper.wp
    simp [execOp, ho, resolve, invoke, builtin, hd, hs, hrun, Result.andThen]
    exact h _ (show _ = _ by simpa [splice] using setRow_heap w g _ _ t _ hg) (But.setRow_ g w _)
end Go.Proofs.YtdjfklllfbenjaaDoor
