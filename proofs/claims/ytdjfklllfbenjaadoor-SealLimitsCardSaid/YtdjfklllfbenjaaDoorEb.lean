/- Package seal: keyed, derived, counted. -/
import Derived.Test.YtdjfklllfbenjaaDoorEa
import Derived.Laws.IdiomStrings
namespace Go.Proofs.YtdjfklllfbenjaaDoor
open Go.RowKit

/-- The bytes of a string, as numbers. -/
def numsOf (s : ByteArray) : List Int := s.data.toList.map fun b => ((b.toNat : Nat) : Int)
theorem numsOf_len (s : ByteArray) : (numsOf s).length = s.size := by unfold numsOf; rw [List.length_map, Array.length_toList]; rfl
theorem numsOf_by (s : ByteArray) : Bys8 (numsOf s) := by
  intro x hx
  obtain ⟨b, -, rfl⟩ := List.mem_map.1 hx
  have := b.toNat_lt
  exact ⟨by omega, by omega⟩
/-- []byte(s). -/
theorem conv_str (w : World) (s : ByteArray) : ∃ W' c, (convert 9 22 (.string s)).run Tryd.prog w = .ok (.slice (some ⟨w.heap.size, 0, none⟩) s.size c) W' ∧ Below w.heap.size w W' ∧ PartAt W' W'.heap.size (.slice (some ⟨w.heap.size, 0, none⟩) s.size c) (numsOf s) := by
  refine ⟨_, _, run_bytes_of_string w 9 22 5 s Tryd.underlying9 Tryd.underlying22 Tryd.underlying5, ?_, ?_⟩
  · exact (Below.refl _ _).drew.trans ((Below.new w.drew _).mono (Nat.le_refl _))
  · refine ⟨_, _, by rw [numsOf_len], by rw [numsOf_len]; exact grownCap_ge _ _ _ _, fun h0 => ⟨w.heap.size, 0, rfl, ?_, ?_, fun k hk => ?_⟩⟩
    · show w.heap.size ≠ (w.heap.push _).size
      rw [Array.size_push]
      omega
    · show w.heap.size < (w.heap.push _).size
      rw [Array.size_push]
      omega
    · rw [numsOf_len] at hk
      have hg := heap_alloc_new w.drew (.cells (bytesRow s (grownCap w s.size 0 5)) 5 ((bytesRow s (grownCap w s.size 0 5)).size, (bytesRow s (grownCap w s.size 0 5)).size + 1))
      rw [Nat.zero_add, cell_of_row _ w.heap.size k _ 5 _ hg]
      have h1 : k < s.data.size := hk
      unfold bytesRow numsOf at_
      rw [Array.getElem?_append_left (by rw [Array.size_map]; exact h1)]
      simp
      exact ⟨s.data[k], Array.getElem?_eq_getElem h1, by rw [Array.getElem?_eq_getElem h1]; rfl⟩
/-- make([]byte, 0, n). -/
theorem makeB0 {ops : Array Oper} {rest : List Oper} {o : Oper} {a : Act} {Q : Exit → Act → World → Prop} {w : World}
    (hgd : o.guard = none) (l c : Operand) (T : TypeId) (ho : o.op = Op.makeSlice T l c) (hT : Tryd.prog.underlying T = some (.slice 5)) (n : Nat) (C : Int)
    (hl : a.eval l = .int .i64 0) (hc : a.eval c = .int .i64 C) (hC : C = (n : Int)) (hn : n < 1000000000000)
    (h : ∀ w', Own w' w.heap.size (.slice (some ⟨w.heap.size, 0, none⟩) 0 n) [] → Below w.heap.size w w' → w.heap.size < w'.heap.size → wpList Tryd.prog ops Q rest (a.put o.dst (.slice (some ⟨w.heap.size, 0, none⟩) 0 n)) w') : wpList Tryd.prog ops Q (o :: rest) a w := by
  obtain ⟨i0, hi, hz0, hz1, hz2⟩ := info_parts infoZU8
  refine wpList_make_own w hgd l c T ho w.heap.size 5 i0 (.int .u8 0) 1 hT hi hz0 hz1 .i64 .i64 C n hl hc hC (by rw [hz2]; omega) (by unfold maxLen; omega) (Nat.le_refl _) fun w' h1 h2 => ?_
  refine h w' h1 ((Below.refl w.heap.size w).grown h2 (Nat.le_refl _) fun k hk => by cases hk) ?_
  rcases h1.2 with ⟨e, _⟩ | ⟨g, cap, cur, e, hb, hg, _⟩
  · simp at e
  · have : g = w.heap.size := by simp at e; exact e.1.symm
    subst this
    exact (Array.getElem?_eq_some_iff.1 hg).1
theorem keyedH_eq {kd bd : List Int} (h1 : 1 ≤ kd.length) (h2 : kd.length ≤ 32) : keyedH kd bd = hashB kd bd := by unfold keyedH; rw [if_neg (by omega)]
set_option maxRecDepth 100000 in
set_option maxHeartbeats 2000000 in
/-- keyed: the hash with a key, as bytes. -/
theorem skeyed_any (A B : Option Addr) (n c m cb : Nat) (kd bd : List Int) (w : World) (hn : kd.length = n) (h1 : 1 ≤ n) (h32 : n ≤ 32) (hk : PartAt w w.heap.size (.slice A n c) kd) (hb : PartAt w w.heap.size (.slice B m cb) bd) (hm : bd.length < 10000000000) (htab : Tabs w) :
    Calls Tryd.prog 55 #[.slice A n c, .slice B m cb] w fun e w' => (∃ g, e = .returned (.slice (some ⟨g, 0, none⟩) 32 32) ∧ PartAt w' w'.heap.size (.slice (some ⟨g, 0, none⟩) 32 32) (hashB kd bd)) ∧ Below w.heap.size w w' := by
  have HC := Lib.hid (keyed_any A B n c m cb kd bd w hn hk hb hm htab)
  have e1 := Lib.hid (keyedH_eq (kd := kd) (bd := bd) (by omega) (by omega))
  clear hn hk hb hm htab h1 h32
  go_enter Tryd.func55, Tryd.ntmps55
  go_wp2_with (fail)
  refine HC.out.mono ?_
  rintro e w2 ⟨rfl, h2⟩
  rw [e1.out]
  have A3 : Hid (U8 (w2.alloc (.cells (u8s z32) 24)) w2.heap.size 24 z32) := Lib.hid (heap_alloc_new w2 _)
  rw [u8s_z32] at A3
  go_upto_region 2 with (refine st32 rfl _ _ rfl w2.heap.size rfl z32 (hashB kd bd) rfl A3.out (hashB_len _ _) rfl ?_)
  have R4 := Lib.hid (U8.setRow (es := hashB kd bd) A3.out)
  have q4 := below_setRow (g := w2.heap.size) (cs := u8s (hashB kd bd)) (Below.new w2 (.cells (u8s z32) 24)) (Nat.le_refl _)
  rw [u8s_z32] at q4
  have B4 := Lib.hid (h2.trans (q4.mono h2.size))
  have hgl := Lib.hid R4.out.lt
  clear q4 h2 A3 HC
  generalize (w2.alloc (.cells #[.int .u8 0, .int .u8 0, .int .u8 0, .int .u8 0, .int .u8 0, .int .u8 0, .int .u8 0, .int .u8 0, .int .u8 0, .int .u8 0, .int .u8 0, .int .u8 0, .int .u8 0, .int .u8 0, .int .u8 0, .int .u8 0, .int .u8 0, .int .u8 0, .int .u8 0, .int .u8 0, .int .u8 0, .int .u8 0, .int .u8 0, .int .u8 0, .int .u8 0, .int .u8 0, .int .u8 0, .int .u8 0, .int .u8 0, .int .u8 0, .int .u8 0, .int .u8 0] 24)).setRow w2.heap.size (u8s (hashB kd bd)) = W4 at *
  generalize w2.heap.size = gg at *
  have HPH : Hid (PartAt W4 W4.heap.size (.slice (some ⟨gg, 0, none⟩) 32 32) (hashB kd bd)) := Lib.hid ⟨_, 32, by rw [hashB_len], by rw [hashB_len]; exact Nat.le_refl _, fun _ => ⟨gg, 0, rfl, Nat.ne_of_lt hgl.out, hgl.out, fun k hk => by rw [Nat.zero_add]; exact R4.out.at_at hk rfl⟩⟩
  clear R4 hgl
  go_wp2_with (fail)
  go_ret
  exact ⟨⟨gg, rfl, HPH.out⟩, B4.out⟩
set_option maxRecDepth 100000 in
set_option maxHeartbeats 2000000 in
/-- derived: a key that is derived with a label. -/
theorem derived_any (A : Option Addr) (n c : Nat) (kd : List Int) (s : ByteArray) (w : World) (hn : kd.length = n) (h1 : 1 ≤ n) (h32 : n ≤ 32) (hk : PartAt w w.heap.size (.slice A n c) kd) (hs : s.size < 10000000000) (htab : Tabs w) :
    Calls Tryd.prog 44 #[.slice A n c, .string s] w fun e w' => (∃ g, e = .returned (.slice (some ⟨g, 0, none⟩) 32 32) ∧ PartAt w' w'.heap.size (.slice (some ⟨g, 0, none⟩) 32 32) (hashB kd (numsOf s))) ∧ Below w.heap.size w w' := by
  obtain ⟨W', cc, hcv, hb, hp⟩ := conv_str w s
  have HC := Lib.hid (skeyed_any A (some ⟨w.heap.size, 0, none⟩) n c s.size cc kd (numsOf s) W' hn h1 h32 (hk.later hb hb.size) hp (by rw [numsOf_len]; exact hs) (htab.below hb htab.lt))
  have HB := Lib.hid hb
  clear hn hk hb hp hs htab h1 h32
  go_enter Tryd.func44, Tryd.ntmps44
  go_wp2_with (fail)
  refine HC.out.mono ?_
  rintro e w2 ⟨⟨g, rfl, h3⟩, h2⟩
  have H3 := Lib.hid h3
  have H2 := Lib.hid (HB.out.trans (h2.mono HB.out.size))
  clear h3 h2 HC HB hcv
  go_wp2_with (fail)
  go_ret
  exact ⟨⟨g, rfl, H3.out⟩, H2.out⟩
end Go.Proofs.YtdjfklllfbenjaaDoor
