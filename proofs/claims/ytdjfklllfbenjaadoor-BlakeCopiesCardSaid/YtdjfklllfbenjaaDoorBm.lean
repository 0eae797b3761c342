/- Package blake: start. -/
import Derived.Test.YtdjfklllfbenjaaDoorBl
import Derived.Great.BuildSlice
namespace Go.Proofs.YtdjfklllfbenjaaDoor
open Go.RowKit

def zH : List Value := .bool false :: ((List.replicate 8 (0 : Int)).map (Value.int .u32) ++ (.int .u64 0 :: ((List.replicate 64 (0 : Int)).map (Value.int .u8) ++ [.int .i64 0, .int .i64 0])))
theorem zH_len : zH.length = 76 := rfl
theorem infoZH : (Tryd.prog.info? 71).map (fun i => (i.zero, i.size)) = some (some (.agg zH.toArray), 76) := by kernel_rfl
theorem zeroH (w : World) : (zeroValue 71).run Tryd.prog w = .ok (.agg zH.toArray) w := by
  have h := infoZH
  cases hq : Tryd.prog.info? 71 with
  | none => rw [hq] at h; cases h
  | some i =>
    rw [hq] at h
    have hz : i.zero = some (.agg zH.toArray) := congrArg Prod.fst (Option.some.inj h)
    simp [zeroValue, typeInfo, hq, hz]
theorem infoH (n : Nat) (h : n = 76) : (Tryd.prog.info? 71).map (·.size) = some n := by subst h; kernel_rfl
theorem hcells_one (x : Hst) : (hcells x).toArray.all (·.oneCell') = true := by
  refine Array.all_eq_true_iff_forall_mem.2 fun v hv => ?_
  have hv : v ∈ hcells x := by simpa using hv
  unfold hcells at hv
  simp only [List.mem_cons, List.mem_append, List.mem_map, List.not_mem_nil, or_false] at hv
  rcases hv with rfl | ⟨z, _, rfl⟩ | rfl | ⟨z, _, rfl⟩ | rfl | rfl <;> rfl
theorem ldH {ops : Array Oper} {rest : List Oper} {o : Oper} {a : Act} {w : World} {Q : Exit → Act → World → Prop} (hgd : o.guard = none) (x : Operand) (ho : o.op = .load 71 x)
    (g : Nat) (hx : a.eval x = .pointer (some ⟨g, 0, none⟩)) (y : Hst) (hb : HashAt w g y)
    (h : wpList Tryd.prog ops Q rest (a.put o.dst (.agg (hcells y).toArray)) w) : wpList Tryd.prog ops Q (o :: rest) a w :=
  wpList_load_row hgd 71 x ho g hx 71 _ (0, 0) _ hb.1 Tryd.underlying71 rfl (infoH _ (by rw [List.size_toArray, hcells_len hb.2])) h
theorem stH {ops : Array Oper} {rest : List Oper} {o : Oper} {a : Act} {w : World} {Q : Exit → Act → World → Prop} (hgd : o.guard = none) (x y : Operand) (ho : o.op = .store 71 x y)
    (g : Nat) (hx : a.eval x = .pointer (some ⟨g, 0, none⟩)) (old : Array Value) (z : Hst) (hy : a.eval y = .agg (hcells z).toArray) (hb : w.heap[g]? = some (.cells old 71 (0, 0))) (hz : z.ok) (h76 : old.size = 76)
    (h : wpList Tryd.prog ops Q rest (a.put o.dst undef) (w.setRow g (hcells z).toArray)) : wpList Tryd.prog ops Q (o :: rest) a w :=
  wpList_store_row hgd 71 x y ho g _ hx hy 71 old hb (infoH _ (by rw [List.size_toArray, hcells_len hz])) (by rw [h76, List.size_toArray, hcells_len hz]) (hcells_one z) h
theorem res_H {fn : Func} {p : Tmp} (h : fn.results = #[.cell p 71]) (tmps : Array Value) (w : World) (g : Nat) (y : Hst)
    (hp : tmps.getD p undef = .pointer (some ⟨g, 0, none⟩)) (hb : HashAt w g y) : (results fn tmps).run Tryd.prog w = .ok (.agg (hcells y).toArray) w :=
  results_cell_row (P := Tryd.prog) h tmps w g 71 _ (0, 0) _ hp hb.1 Tryd.underlying71 rfl (infoH _ (by rw [List.size_toArray, hcells_len hb.2]))
/-- The state before the first block. -/
def hk0 (n : Nat) : List Int := iv.set 0 (xo 1779033703 (16842784 + (n : Int) * 256))
theorem hk0_len (n : Nat) : (hk0 n).length = 8 := by simp [hk0, iv]
/-- What a key puts before the message. -/
def kmsg (kd : List Int) : List Int := if kd.length = 0 then [] else kd ++ List.replicate (64 - kd.length) 0
def khead (n : Nat) : Nat := if n = 0 then 0 else 64
def x0 (n : Nat) : Hst := ⟨hk0 n, 0, List.replicate 64 0, 0, 0⟩
theorem x0_ok (n : Nat) : (x0 n).ok := ⟨hk0_len n, rfl⟩
def xi : Hst := ⟨iv, 0, List.replicate 64 0, 0, 0⟩
theorem xi_ok : xi.ok := ⟨rfl, rfl⟩
theorem two_newV (w : World) (T T' : TypeId) (P Q : Array Value) : ((w.alloc (.cells P T)).alloc (.cells Q T')).heap[w.heap.size]? = some (.cells P T (0, 0)) ∧ ((w.alloc (.cells P T)).alloc (.cells Q T')).heap[w.heap.size + 1]? = some (.cells Q T' (0, 0)) ∧ Below w.heap.size w ((w.alloc (.cells P T)).alloc (.cells Q T')) ∧ ((w.alloc (.cells P T)).alloc (.cells Q T')).heap.size = w.heap.size + 2 :=
  ⟨heap_alloc2_old w _ _, heap_alloc2_new w _ _, Go.Proofs.YtdjfklllfbenjaaDoor.Below.next (Below.new w _) (Below.new _ _), by simp⟩
/-- make([]byte, n). -/
theorem makeB {ops : Array Oper} {rest : List Oper} {o : Oper} {a : Act} {Q : Exit → Act → World → Prop} {w : World}
    (hgd : o.guard = none) (l c : Operand) (T : TypeId) (ho : o.op = Op.makeSlice T l c) (hT : Tryd.prog.underlying T = some (.slice 5)) (n : Nat) (L C : Int)
    (hl : a.eval l = .int .i64 L) (hc : a.eval c = .int .i64 C) (hL : L = (n : Int)) (hC : C = (n : Int)) (hn : n < 1000000000000)
    (h : ∀ w', (∀ k, k < n → w'.cell? ⟨w.heap.size, k, none⟩ = some (.int .u8 0)) → Below w.heap.size w w' → w.heap.size < w'.heap.size → wpList Tryd.prog ops Q rest (a.put o.dst (.slice (some ⟨w.heap.size, 0, none⟩) n n)) w') : wpList Tryd.prog ops Q (o :: rest) a w := by
  obtain ⟨i0, hi, hz0, hz1, hz2⟩ := info_parts infoZU8
  refine wpList_make_full w hgd l c T ho w.heap.size 5 i0 (.int .u8 0) 1 hT hi hz0 hz1 .i64 .i64 L C n hl hc hL hC (by rw [hz2]; omega) (by unfold maxLen; omega) (Nat.le_refl _) fun w' h1 h2 => ?_
  have e : (madeCells (Value.cells (.int .u8 0)) (n * 1)).toList = (List.replicate n (0 : Int)).map (Value.int .u8) := by
    rw [Nat.mul_one]
    exact (toList_madeCells_one (.int .u8 0) n).trans (by simp)
  rw [e] at h1
  refine h w' (fun k hk => ?_) ((Below.refl w.heap.size w).grown h2 (Nat.le_refl _) fun k hk => by cases hk) (World.ownsRow.lt h1 _ rfl).2
  have := World.ownsRow.cellAt h1 k (by simpa using hk)
  simpa [hk] using this
set_option maxRecDepth 100000 in
set_option maxHeartbeats 2000000 in
theorem start_any (A : Option Addr) (n c : Nat) (kd : List Int) (w : World) (hn : kd.length = n) (h32 : n ≤ 32) (hk : PartAt w w.heap.size (.slice A n c) kd) (htab : Tabs w) :
    Calls Tryd.prog 40 #[.slice A n c] w fun e w' => (∃ x : Hst, e = .returned (.agg (hcells x).toArray) ∧ x.ok ∧ Inv x (hk0 n) (kmsg kd) ∧ x.head = khead n) ∧ Below w.heap.size w w' := by
  obtain ⟨n1, n2, n3, n4⟩ := two_newV w 71 71 zH.toArray zH.toArray
  have HT := Lib.hid htab
  have HK := Lib.hid hk
  have HN := Lib.hid hn
  clear hk hn htab
  have HT1 := Lib.hid (HT.out.below (Below.new w (.cells zH.toArray 71)) HT.out.lt)
  have N1 := Lib.hid n1
  have N2 := Lib.hid n2
  have N3 := Lib.hid n3
  have N4 := Lib.hid n4
  clear n1 n2 n3 n4
  have HY := Lib.hid (show HashAt (((w.alloc (.cells zH.toArray 71)).alloc (.cells zH.toArray 71)).setRow (w.heap.size + 1) (hcells xi).toArray) (w.heap.size + 1) xi from ⟨setRow_heap _ _ zH.toArray _ 71 (0, 0) N2.out, xi_ok⟩)
  have HR := Lib.hid (show (((w.alloc (.cells zH.toArray 71)).alloc (.cells zH.toArray 71)).setRow (w.heap.size + 1) (hcells xi).toArray).heap[w.heap.size]? = some (.cells zH.toArray 71 (0, 0)) from (Go.setRow_other _ _ _ _ (by omega)).trans N1.out)
  have HB := Lib.hid (below_setRow (g := w.heap.size + 1) (cs := (hcells xi).toArray) N3.out (by omega))
  have hn32 : (n : Int) ≤ 32 := by omega
  have hw1 : (n : Int) % 4294967296 = n := by omega
  have hw2 : (n : Int) * 256 % 4294967296 = n * 256 := by omega
  have hw3 : (16842784 + (n : Int) * 256) % 4294967296 = 16842784 + n * 256 := by omega
  have hzv := zeroH
  go_enter Tryd.func40, Tryd.ntmps40
  go_upto_region 2 with (first | (refine ldInit rfl _ rfl rfl HT1.out ?_) | (refine wpList_buildTo rfl _ _ rfl _ rfl (hcells xi).toArray (by kernel_rfl) ?_) | (refine stH rfl _ _ rfl (w.heap.size + 1) rfl _ xi rfl N2.out xi_ok rfl ?_))
  generalize (((w.alloc (.cells zH.toArray 71)).alloc (.cells zH.toArray 71)).setRow (w.heap.size + 1) (hcells xi).toArray) = W at *
  generalize hp : w.heap.size = p at *
  have HPP := Lib.hid hp
  clear hp N1 N2 N3 N4 HT1 hzv
  have c1 : W.cell? ⟨p + 1, 1, none⟩ = some (.int .u32 1779033703) := by rw [HY.out.cell 1]; rfl
  have f1 := HY.out.free 1
  have HP : Hid (2 ≤ p) := Lib.hid (HPP.out ▸ HT.out.lt)
  have HY2 := Lib.hid (show HashAt (W.setCell ⟨p + 1, 1, none⟩ (.int .u32 (bits .xor .u32 1779033703 (16842784 + (n : Int) * 256)))) (p + 1) (x0 n) from HY.out.to (x0_ok n) 1 _ (set_st0 xi_ok _))
  have HR2 := Lib.hid (show (W.setCell ⟨p + 1, 1, none⟩ (.int .u32 (bits .xor .u32 1779033703 (16842784 + (n : Int) * 256)))).heap[p]? = some (.cells zH.toArray 71 (0, 0)) from (Below.heap_setCell W _ _ p (by show p ≠ p + 1; omega)).trans HR.out)
  have HB2 := Lib.hid (show Below p w (W.setCell ⟨p + 1, 1, none⟩ (.int .u32 (bits .xor .u32 1779033703 (16842784 + (n : Int) * 256)))) from HB.out.setCell (by show p ≤ p + 1; omega) _)
  go_upto_region 3 with (fail)
  generalize W.setCell ⟨p + 1, 1, none⟩ (.int .u32 (bits .xor .u32 1779033703 (16842784 + (n : Int) * 256))) = W2 at *
  clear c1 f1 HY HR HB hw1 hw2 hw3
  by_cases g : n = 0
  · subst g
    have hkd : kd = [] := List.eq_nil_of_length_eq_zero HN.out
    have HIX : Hid (Inv (x0 0) (hk0 0) (kmsg kd)) := Lib.hid (by subst hkd; exact Inv.zero _ _ rfl rfl rfl)
    have HBX := Lib.hid (below_setRow (g := p) (cs := (hcells (x0 0)).toArray) HB2.out (Nat.le_refl _))
    clear hkd
    go_wp2_with (first | (refine ldH rfl _ rfl (p + 1) rfl (x0 0) HY2.out ?_) | (refine stH rfl _ _ rfl p rfl zH.toArray (x0 0) rfl HR2.out (x0_ok 0) rfl ?_))
    exact bodyPost_ret (res_H rfl _ _ p (x0 0) rfl ⟨setRow_heap _ _ zH.toArray _ 71 (0, 0) HR2.out, x0_ok 0⟩) rfl ⟨⟨x0 0, rfl, x0_ok 0, HIX.out, rfl⟩, by rw [HPP.out]; exact HBX.out⟩
  · have gI : (0 : Int) < n := by omega
    have c75 := (HY2.out.cell 75).trans (hcells_head (x0_ok n))
    have f75 := HY2.out.free 75
    have HY3 := Lib.hid (show HashAt (W2.setCell ⟨p + 1, 75, none⟩ (.int .i64 ((64 : Nat) : Int))) (p + 1) { x0 n with head := 64 } from HY2.out.to (x' := { x0 n with head := 64 }) (x0_ok n) 75 _ (set_head (x0_ok n) 64))
    have HR3 := Lib.hid (show (W2.setCell ⟨p + 1, 75, none⟩ (.int .i64 ((64 : Nat) : Int))).heap[p]? = some (.cells zH.toArray 71 (0, 0)) from (Below.heap_setCell W2 _ _ p (by show p ≠ p + 1; omega)).trans HR2.out)
    have HB3 := Lib.hid (show Below p w (W2.setCell ⟨p + 1, 75, none⟩ (.int .i64 ((64 : Nat) : Int))) from HB2.out.setCell (by show p ≤ p + 1; omega) _)
    rw [show ((64 : Nat) : Int) = (64 : Int) from rfl] at HY3 HR3 HB3
    go_upto_region 5 with (fail)
    generalize W2.setCell ⟨p + 1, 75, none⟩ (.int .i64 64) = W3 at *
    clear c75 f75 HY2 HR2 HB2
    go_wp2_with (refine makeB rfl _ _ _ rfl Tryd.underlying22 (64 - n) _ _ rfl rfl (by omega) (by omega) (by omega) ?_; intro W4 m1 m2 m3)
    have hl3 : p + 1 < W3.heap.size := HY3.out.lt
    have q5 := (m2.trans ((Below.new W4 (.cells #[.slice A n c, .slice (some ⟨W3.heap.size, 0, none⟩) (64 - n) (64 - n)] 22)).mono (Nat.le_of_lt m3)))
    have HY5 := Lib.hid (show HashAt (W4.alloc (.cells #[.slice A n c, .slice (some ⟨W3.heap.size, 0, none⟩) (64 - n) (64 - n)] 22)) (p + 1) { x0 n with head := 64 } from HY3.out.below q5 hl3)
    have HR5 := Lib.hid (show (W4.alloc (.cells #[.slice A n c, .slice (some ⟨W3.heap.size, 0, none⟩) (64 - n) (64 - n)] 22)).heap[p]? = some (.cells zH.toArray 71 (0, 0)) from (q5.block p (by omega)).trans HR3.out)
    have HB5 := Lib.hid (show Below p w (W4.alloc (.cells #[.slice A n c, .slice (some ⟨W3.heap.size, 0, none⟩) (64 - n) (64 - n)] 22)) from HB3.out.trans (q5.mono (by omega)))
    have HC0 : Hid ((W4.alloc (.cells #[.slice A n c, .slice (some ⟨W3.heap.size, 0, none⟩) (64 - n) (64 - n)] 22)).cell? ⟨W4.heap.size, 0, none⟩ = some (.slice A n c)) := Lib.hid (by rw [cell_of_row _ _ _ _ 22 (0, 0) (heap_alloc_new W4 _)]; rfl)
    have HC1 : Hid ((W4.alloc (.cells #[.slice A n c, .slice (some ⟨W3.heap.size, 0, none⟩) (64 - n) (64 - n)] 22)).cell? ⟨W4.heap.size, 1, none⟩ = some (.slice (some ⟨W3.heap.size, 0, none⟩) (64 - n) (64 - n))) := Lib.hid (by rw [cell_of_row _ _ _ _ 22 (0, 0) (heap_alloc_new W4 _)]; rfl)
    have HS5 : Hid ((W4.alloc (.cells #[.slice A n c, .slice (some ⟨W3.heap.size, 0, none⟩) (64 - n) (64 - n)] 22)).heap.size = W4.heap.size + 1) := Lib.hid (by simp)
    have HZ : Hid (∀ k, k < 64 - n → (W4.alloc (.cells #[.slice A n c, .slice (some ⟨W3.heap.size, 0, none⟩) (64 - n) (64 - n)] 22)).cell? ⟨W3.heap.size, k, none⟩ = some (.int .u8 0)) := Lib.hid fun k hk => (World.cell?_of_block (Below.heap_alloc W4 _ _ (by show W3.heap.size < _; omega))).trans (m1 k hk)
    generalize (W4.alloc (.cells #[.slice A n c, .slice (some ⟨W3.heap.size, 0, none⟩) (64 - n) (64 - n)] 22)) = W5 at *
    have HP5 : Hid (PartAt W5 (p + 1) (.slice A n c) kd) := Lib.hid (by
      obtain ⟨A', c', e, hc, hA⟩ := HK.out
      refine ⟨A', c', e, hc, fun h0 => ?_⟩
      obtain ⟨b, o, e1, h1, h2, h3⟩ := hA h0
      rw [HPP.out] at h2
      exact ⟨b, o, e1, by omega, by have := HB5.out.size; have := HS5.out; omega, fun k hk => kept_cell HB5.out (h3 k hk) (by omega)⟩)
    have HP6 : Hid (PartAt W5 (p + 1) (.slice (some ⟨W3.heap.size, 0, none⟩) (64 - n) (64 - n)) (List.replicate (64 - n) 0)) := Lib.hid (by
      refine ⟨some ⟨W3.heap.size, 0, none⟩, 64 - n, by rw [List.length_replicate], by rw [List.length_replicate]; exact Nat.le_refl _, fun _ => ⟨_, 0, rfl, by omega, by have := HS5.out; omega, fun k hk => ?_⟩⟩
      rw [List.length_replicate] at hk
      rw [Nat.zero_add, HZ.out k hk]
      unfold at_
      rw [List.getElem?_replicate, if_pos hk]
      rfl)
    have HFL : Hid (flat [(.slice A n c, kd), (.slice (some ⟨W3.heap.size, 0, none⟩) (64 - n) (64 - n), List.replicate (64 - n) 0)] = kmsg kd) := Lib.hid (by
      unfold flat kmsg
      rw [if_neg (by rw [HN.out]; exact g), HN.out]
      simp)
    have HKL : Hid ((kmsg kd).length = 64) := Lib.hid (by
      unfold kmsg
      rw [if_neg (by rw [HN.out]; exact g), List.length_append, List.length_replicate, HN.out]
      omega)
    have HAD := add_any (p + 1) W4.heap.size 2 [(.slice A n c, kd), (.slice (some ⟨W3.heap.size, 0, none⟩) (64 - n) (64 - n), List.replicate (64 - n) 0)] [] (hk0 n) { x0 n with head := 64 } W5 HY5.out (Inv.zero _ _ rfl rfl rfl) rfl (by omega) (by have := HS5.out; omega) (fun k hk => by
      match k, hk with
      | 0, _ => exact ⟨HC0.out, HP5.out⟩
      | 1, _ => exact ⟨HC1.out, HP6.out⟩) (by have := HP.out; omega) (HT.out.below HB5.out HP.out) (by rw [HFL.out, HKL.out]; simp) (by omega)
    rw [HFL.out, List.nil_append] at HAD
    refine HAD.mono ?_
    rintro e W6 ⟨rfl, ⟨x6, h61, h62, h63⟩, h64⟩
    have HY6 := Lib.hid h61
    have HI6 := Lib.hid h62
    have HH6 : Hid (x6.head = khead n) := Lib.hid (by rw [h63]; unfold khead; rw [if_neg g])
    have HR6 := Lib.hid ((h64.block p (by omega) (by have := HB5.out.size; have := HS5.out; omega)).trans HR5.out)
    have HB6 := Lib.hid (below_setRow (g := p) (cs := (hcells x6).toArray) (HB5.out.trans (h64.below (by omega) (by have := HS5.out; omega))) (Nat.le_refl _))
    clear HAD h61 h62 h63 h64 q5 m1 m2 m3 HY5 HR5 HB5 HC0 HC1 HZ HP5 HP6 HFL
    go_wp2_with (first | (refine ldH rfl _ rfl (p + 1) rfl x6 HY6.out ?_) | (refine stH rfl _ _ rfl p rfl zH.toArray x6 rfl HR6.out HY6.out.2 rfl ?_))
    exact bodyPost_ret (res_H rfl _ _ p x6 rfl ⟨setRow_heap _ _ zH.toArray _ 71 (0, 0) HR6.out, HY6.out.2⟩) rfl ⟨⟨x6, rfl, HY6.out.2, HI6.out, HH6.out⟩, by rw [HPP.out]; exact HB6.out⟩
end Go.Proofs.YtdjfklllfbenjaaDoor
