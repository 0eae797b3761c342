/- The statement BlakeNone: the walk. -/
import Derived.Test.YthfipbhlgndimaaDoorBq
import Derived.Stop.BytesEq
namespace Go.Proofs.YthfipbhlgndimaaDoor
open Go.RowKit

/-- v is nil, or it leads to what is no computation. -/
def NoHash (w : World) (v : Value) : Prop := v = .pointer none ∨ ∃ p, v = .pointer (some ⟨p, 0, none⟩) ∧ w.cell? ⟨p, 0, none⟩ = some (.bool false)
theorem NoHash.below {w w' : World} {v : Value} (h : NoHash w v) (hb : Below w.heap.size w w') : NoHash w' v :=
  h.imp id fun ⟨p, e, hc⟩ => ⟨p, e, kept_cell hb hc (block_lt_of_cell hc)⟩
theorem is_no {w : World} {v : Value} (h : NoHash w v) : Calls Tryd.prog 23 #[v] w fun e w' => e = .returned (.bool false) ∧ w' = w := by
  rcases h with rfl | ⟨p, rfl, hc⟩
  · exact isnil_any w
  · exact iszero_any w p hc
theorem write_no {w : World} {v : Value} (h : NoHash w v) (b : Value) : Calls Tryd.prog 14 #[v, b] w fun e w' => e = .returned (.int .i64 1) ∧ w' = w := by
  have HI := Lib.hid (is_no h)
  clear h
  go_enter Tryd.func14, Tryd.ntmps14
  go_wp2_with (fail)
  refine HI.out.mono ?_
  rintro e w1 ⟨rfl, rfl⟩
  go_wp2_with (fail)
  go_ret
  exact ⟨rfl, rfl⟩
theorem len_no {w : World} {v : Value} (h : NoHash w v) : Calls Tryd.prog 16 #[v] w fun e w' => e = .returned (.int .i64 0) ∧ w' = w := by
  have HI := Lib.hid (is_no h)
  clear h
  go_enter Tryd.func16, Tryd.ntmps16
  go_wp2_with (fail)
  refine HI.out.mono ?_
  rintro e w1 ⟨rfl, rfl⟩
  go_wp2_with (fail)
  go_ret
  exact ⟨rfl, rfl⟩
theorem copy_no {w : World} {v : Value} (h : NoHash w v) : Calls Tryd.prog 17 #[v] w fun e w' => e = .returned (.pointer none) ∧ w' = w := by
  have HI := Lib.hid (is_no h)
  clear h
  go_enter Tryd.func17, Tryd.ntmps17
  go_wp2_with (fail)
  refine HI.out.mono ?_
  rintro e w1 ⟨rfl, rfl⟩
  go_wp2_with (fail)
  go_ret
  exact ⟨rfl, rfl⟩
theorem msum_no {w : World} {v : Value} (h : NoHash w v) : Calls Tryd.prog 15 #[v] w fun e w' => e = .returned (.tuple #[.agg (u8s z32), .int .i64 1]) ∧ Below w.heap.size w w' := by
  have N1 := Lib.hid (res_new w)
  have N2 := Lib.hid (Below.new w (.cells (u8s z32) 24))
  have HI := Lib.hid (is_no (h.below N2.out))
  rw [u8s_z32] at N1 N2 HI
  have HB := Lib.hid (below_setRow (g := w.heap.size) (cs := u8s z32) N2.out (Nat.le_refl _))
  clear h
  go_enter Tryd.func15, Tryd.ntmps15
  go_wp2_with (fail)
  refine HI.out.mono ?_
  rintro e w1 ⟨rfl, rfl⟩
  go_wp2_with (first | (refine wpList_buildTo rfl _ _ rfl _ rfl (u8s z32) (by kernel_rfl) ?_) | (refine st32 rfl _ _ rfl w.heap.size rfl z32 z32 rfl N1.out rfl rfl ?_))
  exact bodyPost_ret (res_32e rfl _ _ w.heap.size z32 (.int .i64 1) rfl rfl N1.out.setRow rfl) rfl ⟨rfl, HB.out⟩
theorem bytes_cells (xs : List Int) (h : ∀ x ∈ xs, 0 ≤ x ∧ x < 256) : ∃ us : List UInt8, us.length = xs.length ∧ us.map Extern.Stop.cell = xs.map (Value.int .u8) := by
  refine ⟨xs.map fun x => UInt8.ofNat x.toNat, by simp, ?_⟩
  rw [List.map_map]
  apply List.map_congr_left
  intro x hx
  obtain ⟨h0, h1⟩ := h x hx
  show Value.int .u8 ((UInt8.ofNat x.toNat).toNat : Int) = .int .u8 x
  rw [UInt8.toNat_ofNat']
  congr 1
  omega
theorem sizeU8 (w : World) : (sizeOf 5).run Tryd.prog w = .ok 1 w := by
  obtain ⟨i0, hi, hz0, hz1, hz2⟩ := info_parts infoZU8
  simp [sizeOf, typeInfo, hi, hz1]
/-- Two arrays of equal bytes are equal. -/
theorem eq_same (xs : List Int) (h : ∀ x ∈ xs, 0 ≤ x ∧ x < 256) (hl : xs.length = 32) (w : World) : (Op.equalIn 10000 24 (.agg (u8s xs)) (.agg (u8s xs))).run Tryd.prog w = .ok true w := by
  obtain ⟨us, h1, h2⟩ := bytes_cells xs h
  have := run_equalIn_bytes (P := Tryd.prog) w 9998 24 5 32 Tryd.underlying24 Tryd.underlying5 sizeU8 us us (by rw [h1, hl]) (by rw [h1, hl])
  rw [h2] at this
  simpa [u8s] using this
theorem z32_bytes : ∀ x ∈ z32, 0 ≤ x ∧ x < (256 : Int) := by intro x hx; rw [List.eq_of_mem_replicate hx]; decide
theorem wpList_wanted {ops : Array Oper} {rest : List Oper} {o : Oper} {a : Act} {w : World} {Q : Exit → Act → World → Prop} (hw : Region.wanted o (yielded ops a.tmps) = true)
    (h : ∀ K : Act → World → Prop, (∀ a w, wpList Tryd.prog ops Q rest a w → K a w) → o.wp Tryd.prog a w K Q) : wpList Tryd.prog ops Q (o :: rest) a w :=
  wpList_step fun K hK => by rw [if_pos hw]; exact h K hK
theorem ld32g {ops : Array Oper} {rest : List Oper} {o : Oper} {a : Act} {w : World} {Q : Exit → Act → World → Prop} (hw : Region.wanted o (yielded ops a.tmps) = true) (x : Operand) (ho : o.op = .load 24 x)
    (g : Nat) (hx : a.eval x = .pointer (some ⟨g, 0, none⟩)) (xs : List Int) (hb : U8 w g 24 xs) (h8 : xs.length = 32)
    (h : wpList Tryd.prog ops Q rest (a.put o.dst (.agg (u8s xs))) w) : wpList Tryd.prog ops Q (o :: rest) a w :=
  wpList_wanted hw fun _ hK => wp_load_row 24 x ho g hx 24 (u8s xs) (0, 0) _ hb Tryd.underlying24 rfl (info32 xs h8) (hK _ _ h)
theorem buildG {ops : Array Oper} {rest : List Oper} {o : Oper} {a : Act} {w : World} {Q : Exit → Act → World → Prop} (hw : Region.wanted o (yielded ops a.tmps) = true) (t : TypeId) (parts : Array (Nat × Operand)) (ho : o.op = .build t parts)
    (cells : Array Value) (hf : Tryd.prog.built t (parts.map fun (i, x) => (i, a.eval x)).toList = some cells)
    (h : wpList Tryd.prog ops Q rest (a.put o.dst (.agg cells)) w) : wpList Tryd.prog ops Q (o :: rest) a w :=
  wpList_wanted hw fun _ hK => wp_build t parts ho (by rw [hf]; rfl) (by rw [hf]; exact hK _ _ h)
def hv (z k : Nat) : Value := if k = 0 then .pointer none else .pointer (some ⟨z, 0, none⟩)
set_option maxRecDepth 100000 in
set_option maxHeartbeats 2000000 in
theorem none_any (A : Option Addr) (n c : Nat) (w : World) (htab : Tabs w) : Calls Tryd.prog 8 #[.slice A n c] w fun e w' => e = .returned (.bool true) ∧ Below w.heap.size w w' := by
  have HT := Lib.hid htab
  clear htab
  by_cases g : 100 < n
  · have gI : (100 : Int) < n := by omega
    go_enter Tryd.func8, Tryd.ntmps8
    go_wp2_with (fail)
    refine (known_any w HT.out).mono ?_
    rintro e w1 ⟨rfl, h1⟩
    go_wp2_with (fail)
    go_ret
    exact ⟨rfl, h1⟩
  · have gI : ¬ (100 : Int) < n := by omega
    have HP : Hid (2 ≤ w.heap.size) := Lib.hid HT.out.lt
    go_enter Tryd.func8, Tryd.ntmps8
    go_wp2_with (refine wpList_buildTo rfl _ _ rfl _ rfl zH.toArray (by kernel_rfl) ?_)
    have HW := Lib.hid (show Below w.heap.size w ((w.alloc (.cells zH.toArray 48)).alloc (.cells #[.pointer none, .pointer (some ⟨w.heap.size, 0, none⟩)] 31)) from Go.Proofs.YthfipbhlgndimaaDoor.Below.next (Below.new w _) (Below.new _ _))
    have HZ : Hid (((w.alloc (.cells zH.toArray 48)).alloc (.cells #[.pointer none, .pointer (some ⟨w.heap.size, 0, none⟩)] 31)).cell? ⟨w.heap.size, 0, none⟩ = some (.bool false)) := Lib.hid (by rw [cell_of_row _ _ _ _ 48 (0, 0) (heap_alloc2_old w _ _)]; rfl)
    have HC : Hid (∀ k, k < 2 → ((w.alloc (.cells zH.toArray 48)).alloc (.cells #[.pointer none, .pointer (some ⟨w.heap.size, 0, none⟩)] 31)).cell? ⟨w.heap.size + 1, k, none⟩ = some (hv w.heap.size k)) := Lib.hid fun k hk => by
      rw [cell_of_row _ _ _ _ 31 (0, 0) (heap_alloc2_new w _ _)]
      match k, hk with
      | 0, _ => rfl
      | 1, _ => rfl
    have HS : Hid (((w.alloc (.cells zH.toArray 48)).alloc (.cells #[.pointer none, .pointer (some ⟨w.heap.size, 0, none⟩)] 31)).heap.size = w.heap.size + 2) := Lib.hid (by simp)
    generalize ((w.alloc (.cells zH.toArray 48)).alloc (.cells #[.pointer none, .pointer (some ⟨w.heap.size, 0, none⟩)] 31)) = W at *
    generalize hp : w.heap.size = p at *
    have HPP := Lib.hid hp
    clear hp
    go_loopw [5, 6, 7, 8, 18] (fun _ _ _ _ i wr => ∃ k : Nat, k ≤ 2 ∧ i = .int .i64 k ∧ Hid (Below (p + 2) W wr)) (fun _ _ _ _ i _ => 2 - (intOf i).toNat)
    case atStart => exact ⟨0, Nat.zero_le _, rfl, Lib.hid (Below.refl _ _)⟩
    case round =>
      obtain ⟨k, hk, rfl, hb⟩ := hrel
      have hs : p + 2 ≤ wr.heap.size := by have := hb.out.size; have := HS.out; omega
      by_cases g2 : k < 2
      · have gJ : (k : Int) < 2 := by omega
        have c0 := kept_cell hb.out (HC.out k g2) (by omega)
        have hz := kept_cell hb.out HZ.out (by omega)
        have HN : Hid (NoHash wr (hv p k)) := Lib.hid (by
          unfold hv
          split
          · exact .inl rfl
          · exact .inr ⟨p, rfl, hz⟩)
        have heq := eq_same z32 z32_bytes rfl
        obtain ⟨hh, hhe⟩ : ∃ hh, hv p k = hh := ⟨_, rfl⟩
        rw [hhe] at c0 HN
        clear hhe hz
        go_wp2_with (fail)
        refine (write_no HN.out _).mono ?_
        rintro e w1 ⟨rfl, rfl⟩
        go_wp2_with (fail)
        refine (msum_no HN.out).mono ?_
        rintro e w2 ⟨rfl, h2⟩
        have q2 := h2.trans ((Below.new w2 (.cells (u8s z32) 24)).mono h2.size)
        have C2 : Hid (U8 (w2.alloc (.cells (u8s z32) 24)) w2.heap.size 24 z32) := Lib.hid (res_new w2)
        rw [u8s_z32] at C2 q2
        have q3 := below_setRow (g := w2.heap.size) (cs := u8s z32) q2 h2.size
        have C3 := Lib.hid (U8.setRow (es := z32) C2.out)
        have HN3 := Lib.hid (HN.out.below q3)
        have HB3 := Lib.hid (hb.out.trans (q3.mono hs))
        go_upto_region 9 with (refine st32 rfl _ _ rfl w2.heap.size rfl z32 z32 rfl C2.out rfl rfl ?_)
        clear HN q2 q3 C2 hb h2 hs
        generalize (w2.alloc (.cells #[.int .u8 0, .int .u8 0, .int .u8 0, .int .u8 0, .int .u8 0, .int .u8 0, .int .u8 0, .int .u8 0, .int .u8 0, .int .u8 0, .int .u8 0, .int .u8 0, .int .u8 0, .int .u8 0, .int .u8 0, .int .u8 0, .int .u8 0, .int .u8 0, .int .u8 0, .int .u8 0, .int .u8 0, .int .u8 0, .int .u8 0, .int .u8 0, .int .u8 0, .int .u8 0, .int .u8 0, .int .u8 0, .int .u8 0, .int .u8 0, .int .u8 0, .int .u8 0] 24)).setRow w2.heap.size (u8s z32) = w3 at *
        generalize w2.heap.size = r at *
        go_wp2_with (first | (refine ld32g (by rfl) _ rfl r rfl z32 C3.out rfl ?_) | (refine buildG (by rfl) _ _ rfl (u8s z32) (by kernel_rfl) ?_))
        refine (len_no HN3.out).mono ?_
        rintro e w4 ⟨rfl, rfl⟩
        go_wp2_with (fail)
        refine (copy_no HN3.out).mono ?_
        rintro e w5 ⟨rfl, rfl⟩
        go_wp2_with (fail)
        go_roundw
        case rel => exact ⟨k + 1, by omega, by go_num, HB3⟩
        case measure => simp [intOf]; omega
      · obtain rfl : k = 2 := by omega
        have hB := HW.out.trans (hb.out.mono (by omega))
        go_wp2_with (fail)
        have hpw : p ≤ wr.heap.size := by omega
        refine (known_any wr (HT.out.below hB HP.out)).mono ?_
        rintro e w4 ⟨rfl, h4⟩
        have h5 := hB.trans (h4.mono hpw)
        go_wp2_with (fail)
        go_ret
        exact ⟨rfl, by rw [HPP.out]; exact h5⟩
end Go.Proofs.YthfipbhlgndimaaDoor
