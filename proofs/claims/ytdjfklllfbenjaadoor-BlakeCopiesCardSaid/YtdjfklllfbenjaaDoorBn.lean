/- Package blake: the hash of a string; a computation's methods. -/
import Derived.Test.YtdjfklllfbenjaaDoorBm
namespace Go.Proofs.YtdjfklllfbenjaaDoor
open Go.RowKit

theorem PartAt.later {w w' : World} {v : Value} {ds : List Int} {p : Nat} (h : PartAt w w.heap.size v ds) (hb : Below w.heap.size w w') (hp : w.heap.size ≤ p) : PartAt w' p v ds := by
  obtain ⟨A, c, e, hc, hA⟩ := h
  refine ⟨A, c, e, hc, fun h0 => ?_⟩
  obtain ⟨b, o, e1, h1, h2, h3⟩ := hA h0
  exact ⟨b, o, e1, by omega, Nat.lt_of_lt_of_le h2 hb.size, fun k hk => kept_cell hb (h3 k hk) h2⟩
theorem PartAt.nil_ (w : World) (p : Nat) : PartAt w p (.slice none 0 0) [] := ⟨none, 0, rfl, Nat.le_refl _, fun h => by simp at h⟩
/-- The hash, as bytes. -/
def hashB (kd bd : List Int) : List Int := bytesL (hashS (hk0 kd.length) (kmsg kd ++ bd))
theorem hashB_len (kd bd : List Int) : (hashB kd bd).length = 32 := bytesL_len _
theorem kmsg_len (kd : List Int) (h : kd.length ≤ 32) : (kmsg kd).length ≤ 64 := by
  unfold kmsg
  split
  · simp
  · rw [List.length_append, List.length_replicate]; omega
theorem flat_one (v : Value) (ds : List Int) : flat [(v, ds)] = ds := by simp [flat]
/-- add of one part. -/
theorem add_one (p q : Nat) (v : Value) (bd msg h0 : List Int) (x : Hst) (w : World) (h : HashAt w p x) (hi : Inv x h0 msg) (hq : q ≠ p) (hc : w.cell? ⟨q, 0, none⟩ = some v) (hp : PartAt w p v bd) (hp2 : 2 ≤ p) (htab : Tabs w) (hm : msg.length + bd.length < 100000000000) :
    Calls Tryd.prog 42 #[.pointer (some ⟨p, 0, none⟩), .slice (some ⟨q, 0, none⟩) 1 1] w fun e w' => e = .returned (.tuple #[]) ∧
      (∃ x', HashAt w' p x' ∧ Inv x' h0 (msg ++ bd) ∧ x'.head = x.head) ∧ But p w w' := by
  have := add_any p q 1 [(v, bd)] msg h0 x w h hi rfl hq (block_lt_of_cell hc) (fun k hk => by
    match k, hk with
    | 0, _ => exact ⟨hc, hp⟩) hp2 htab (by rw [flat_one]; exact hm) (by omega)
  rw [flat_one] at this
  exact this
set_option maxRecDepth 100000 in
set_option maxHeartbeats 2000000 in
theorem hash_any (A B : Option Addr) (n c m cb : Nat) (kd bd : List Int) (w : World) (hn : kd.length = n) (h32 : n ≤ 32) (hk : PartAt w w.heap.size (.slice A n c) kd) (hb : PartAt w w.heap.size (.slice B m cb) bd) (hm : bd.length < 10000000000) (htab : Tabs w) :
    Calls Tryd.prog 37 #[.slice A n c, .slice B m cb] w fun e w' => e = .returned (.agg (u8s (hashB kd bd))) ∧ Below w.heap.size w w' := by
  have HT := Lib.hid htab
  have HK := Lib.hid hk
  have HBD := Lib.hid hb
  have HN := Lib.hid hn
  have HM := Lib.hid hm
  have N1 := Lib.hid (show U8 (w.alloc (.cells (u8s z32) 24)) w.heap.size 24 z32 from heap_alloc_new w _)
  have N2 := Lib.hid (show Below w.heap.size w (w.alloc (.cells (u8s z32) 24)) from Below.new w _)
  have N3 : Hid ((w.alloc (.cells (u8s z32) 24)).heap.size = w.heap.size + 1) := Lib.hid (by simp)
  rw [u8s_z32] at N1 N2 N3
  have hzv := zeroH
  clear hk hn hb hm htab
  go_enter Tryd.func37, Tryd.ntmps37
  go_wp2_with (fail)
  generalize w.alloc (.cells #[.int .u8 0, .int .u8 0, .int .u8 0, .int .u8 0, .int .u8 0, .int .u8 0, .int .u8 0, .int .u8 0, .int .u8 0, .int .u8 0, .int .u8 0, .int .u8 0, .int .u8 0, .int .u8 0, .int .u8 0, .int .u8 0, .int .u8 0, .int .u8 0, .int .u8 0, .int .u8 0, .int .u8 0, .int .u8 0, .int .u8 0, .int .u8 0, .int .u8 0, .int .u8 0, .int .u8 0, .int .u8 0, .int .u8 0, .int .u8 0, .int .u8 0, .int .u8 0] 24) = W1 at *
  generalize hp : w.heap.size = p at *
  have HPP := Lib.hid hp
  clear hp
  have HP : Hid (2 ≤ p) := Lib.hid (HPP.out ▸ HT.out.lt)
  have HK' : PartAt w w.heap.size (.slice A n c) kd := by rw [HPP.out]; exact HK.out
  have HB' : PartAt w w.heap.size (.slice B m cb) bd := by rw [HPP.out]; exact HBD.out
  have HL1 : Below w.heap.size w W1 := by rw [HPP.out]; exact N2.out
  refine (start_any A n c kd W1 HN.out h32 (HK'.later HL1 (by rw [HPP.out, N3.out]; omega)) (HT.out.below N2.out HP.out)).mono ?_
  rintro e W2 ⟨⟨x, rfl, hx1, hx2, hx3⟩, hb2⟩
  have hs2 : p + 1 ≤ W2.heap.size := by have := hb2.size; rw [N3.out] at this; exact this
  have R2 := Lib.hid ((N1.out.below hb2 (by rw [N3.out]; omega)))
  have B2 := Lib.hid (N2.out.trans (hb2.mono (by rw [N3.out]; omega)))
  have HX1 := Lib.hid hx1
  have HX2 := Lib.hid hx2
  -- the new variable
  have q3 := Lib.hid (show Below W2.heap.size W2 ((W2.alloc (.cells zH.toArray 71)).setRow W2.heap.size (hcells x).toArray) from below_setRow (Below.new W2 _) (Nat.le_refl _))
  have Z3 : Hid ((W2.alloc (.cells zH.toArray 71)).heap[W2.heap.size]? = some (.cells zH.toArray 71 (0, 0))) := Lib.hid (heap_alloc_new W2 _)
  have Y3 := Lib.hid (show HashAt ((W2.alloc (.cells zH.toArray 71)).setRow W2.heap.size (hcells x).toArray) W2.heap.size x from ⟨setRow_heap _ _ zH.toArray _ 71 (0, 0) Z3.out, hx1⟩)
  have S3 : Hid (((W2.alloc (.cells zH.toArray 71)).setRow W2.heap.size (hcells x).toArray).heap.size = W2.heap.size + 1) := Lib.hid (by rw [size_setRow]; simp)
  clear N1 N2 hb2 hx1 hx2 hx3 HL1
  go_upto_region 2 with (refine stH rfl _ _ rfl W2.heap.size rfl zH.toArray x rfl Z3.out HX1.out rfl ?_)
  generalize (W2.alloc (.cells zH.toArray 71)).setRow W2.heap.size (hcells x).toArray = W3 at *
  generalize hg : W2.heap.size = g at *
  have HG := Lib.hid hg
  have R3 := Lib.hid (R2.out.below q3.out (by omega))
  have B3 := Lib.hid (B2.out.trans (q3.out.mono (by omega)))
  clear R2 B2 Z3 hzv hg q3
  go_wp2_with (fail)
  have q4 := Below.new W3 (.cells #[.slice B m cb] 22)
  have Y4 := Lib.hid (Y3.out.alloc (.cells #[.slice B m cb] 22))
  have R4 := Lib.hid (R3.out.alloc (.cells #[.slice B m cb] 22))
  have B4 := Lib.hid (B3.out.trans (q4.mono (by have := S3.out; omega)))
  have C4 : Hid ((W3.alloc (.cells #[.slice B m cb] 22)).cell? ⟨W3.heap.size, 0, none⟩ = some (.slice B m cb)) := Lib.hid (by rw [cell_of_row _ _ _ _ 22 (0, 0) (heap_alloc_new W3 _)]; rfl)
  have P4 : Hid (PartAt (W3.alloc (.cells #[.slice B m cb] 22)) g (.slice B m cb) bd) := Lib.hid (HB'.later (by rw [HPP.out]; exact B4.out) (by rw [HPP.out]; omega))
  have hs4 : g < W3.heap.size := by have := S3.out; omega
  have T4 := Lib.hid (HT.out.below B4.out HP.out)
  generalize (W3.alloc (.cells #[.slice B m cb] 22)) = W4 at *
  generalize hq : W3.heap.size = q at *
  clear hq q4 HK' HB' Y3 R3 B3 S3
  refine (add_one g q (.slice B m cb) bd (kmsg kd) (hk0 n) x W4 Y4.out HX2.out (by omega) C4.out P4.out (by have := HP.out; omega) T4.out (by have := kmsg_len kd (by rw [HN.out]; exact h32); have := HM.out; omega)).mono ?_
  rintro e W5 ⟨rfl, ⟨x5, h51, h52, h53⟩, h54⟩
  have Y5 := Lib.hid h51
  have I5 := Lib.hid h52
  have R5 := Lib.hid (R4.out.but h54 (by omega))
  have B5 := Lib.hid (B4.out.trans (h54.below (by omega) (by have := B4.out.size; have := Y4.out.lt; omega)))
  have hs5 : g < W5.heap.size := h51.lt
  clear h51 h52 h53 h54 Y4 R4 B4 C4 P4 T4
  go_wp2_with (refine ldH rfl _ rfl g rfl x5 Y5.out ?_)
  refine (finish_any x5 (hk0 n) (kmsg kd ++ bd) W5 Y5.out.2 I5.out (HT.out.below B5.out HP.out) (by rw [List.length_append]; have := kmsg_len kd (by rw [HN.out]; exact h32); have := HM.out; omega)).mono ?_
  rintro e W6 ⟨rfl, h6⟩
  have R6 := Lib.hid (R5.out.below h6 (by omega))
  have B6 := Lib.hid (below_setRow (g := p) (cs := u8s (hashB kd bd)) (B5.out.trans (h6.mono (by omega))) (Nat.le_refl _))
  have HQ : Hid (bytesL (hashS (hk0 n) (kmsg kd ++ bd)) = hashB kd bd) := Lib.hid (by unfold hashB; rw [HN.out])
  rw [HQ.out]
  clear h6 R5 B5 Y5 I5
  go_wp2_with (refine st32 rfl _ _ rfl _ rfl _ _ rfl R6.out (hashB_len kd bd) rfl ?_)
  exact bodyPost_ret (res_32 rfl _ _ p _ rfl R6.out.setRow (hashB_len kd bd)) rfl ⟨rfl, by rw [HPP.out]; exact B6.out⟩
end Go.Proofs.YtdjfklllfbenjaaDoor
