/- Package blake: Sum, Keyed, New, Write, Sum, Len, Copy. -/
import Derived.Test.YtdjfklllfbenjaaDoorBn
namespace Go.Proofs.YtdjfklllfbenjaaDoor
open Go.RowKit

theorem res_32e {fn : Func} {p q : Tmp} (h : fn.results = #[.cell p 24, .tmp q]) (tmps : Array Value) (w : World) (g : Nat) (xs : List Int) (v : Value)
    (hp : tmps.getD p undef = .pointer (some ⟨g, 0, none⟩)) (hq : tmps.getD q undef = v) (hb : U8 w g 24 xs) (h8 : xs.length = 32) : (results fn tmps).run Tryd.prog w = .ok (.tuple #[.agg (u8s xs), v]) w := by
  have hp' : tmps[p]?.getD undef = .pointer (some ⟨g, 0, none⟩) := by simpa using hp
  have hq' : tmps[q]?.getD undef = v := by simpa using hq
  simp [results, h, hp', hq', asAddr, run_loadVar_row (P := Tryd.prog) w g 24 24 (u8s xs) (0, 0) _ hb Tryd.underlying24 rfl (info32 xs h8)]
theorem res_new (w : World) : U8 (w.alloc (.cells (u8s z32) 24)) w.heap.size 24 z32 := heap_alloc_new w _
set_option maxRecDepth 100000 in
set_option maxHeartbeats 2000000 in
theorem sum_any (B : Option Addr) (m cb : Nat) (bd : List Int) (w : World) (hb : PartAt w w.heap.size (.slice B m cb) bd) (hm : bd.length < 10000000000) (htab : Tabs w) :
    Calls Tryd.prog 15 #[.slice B m cb] w fun e w' => e = .returned (.agg (u8s (hashB [] bd))) ∧ Below w.heap.size w w' := by
  have N1 := Lib.hid (res_new w)
  have N2 := Lib.hid (Below.new w (.cells (u8s z32) 24))
  have N3 : Hid ((w.alloc (.cells (u8s z32) 24)).heap.size = w.heap.size + 1) := Lib.hid (by simp)
  rw [u8s_z32] at N1 N2 N3
  have HB' := Lib.hid (hb.later N2.out N2.out.size)
  have HT := Lib.hid (htab.below N2.out htab.lt)
  have HM := Lib.hid hm
  clear hb hm htab
  go_enter Tryd.func15, Tryd.ntmps15
  go_wp2_with (fail)
  generalize w.alloc (.cells #[.int .u8 0, .int .u8 0, .int .u8 0, .int .u8 0, .int .u8 0, .int .u8 0, .int .u8 0, .int .u8 0, .int .u8 0, .int .u8 0, .int .u8 0, .int .u8 0, .int .u8 0, .int .u8 0, .int .u8 0, .int .u8 0, .int .u8 0, .int .u8 0, .int .u8 0, .int .u8 0, .int .u8 0, .int .u8 0, .int .u8 0, .int .u8 0, .int .u8 0, .int .u8 0, .int .u8 0, .int .u8 0, .int .u8 0, .int .u8 0, .int .u8 0, .int .u8 0] 24) = W1 at *
  have HH := hash_any none B 0 0 m cb [] bd W1 rfl (by omega) (PartAt.nil_ _ _) HB'.out HM.out HT.out
  refine HH.mono ?_
  rintro e w2 ⟨rfl, h2⟩
  have R2 := Lib.hid (N1.out.below h2 (by rw [N3.out]; omega))
  have B2 := Lib.hid (below_setRow (g := w.heap.size) (cs := u8s (hashB [] bd)) (N2.out.trans (h2.mono (by rw [N3.out]; omega))) (Nat.le_refl _))
  clear HH h2 N1 N2
  go_wp2_with (refine st32 rfl _ _ rfl _ rfl _ _ rfl R2.out (hashB_len [] bd) rfl ?_)
  exact bodyPost_ret (res_32 rfl _ _ w.heap.size _ rfl R2.out.setRow (hashB_len [] bd)) rfl ⟨rfl, B2.out⟩
/-- The error of Keyed: a key that has not 1 to 32 bytes. -/
def keyedE (n : Nat) : Int := if n = 0 ∨ 32 < n then 2 else 0
def keyedH (kd bd : List Int) : List Int := if kd.length = 0 ∨ 32 < kd.length then z32 else hashB kd bd
theorem keyedH_len (kd bd : List Int) : (keyedH kd bd).length = 32 := by unfold keyedH; split <;> first | rfl | exact hashB_len _ _
set_option maxRecDepth 100000 in
set_option maxHeartbeats 2000000 in
theorem keyed_any (A B : Option Addr) (n c m cb : Nat) (kd bd : List Int) (w : World) (hn : kd.length = n) (hk : PartAt w w.heap.size (.slice A n c) kd) (hb : PartAt w w.heap.size (.slice B m cb) bd) (hm : bd.length < 10000000000) (htab : Tabs w) :
    Calls Tryd.prog 17 #[.slice A n c, .slice B m cb] w fun e w' => e = .returned (.tuple #[.agg (u8s (keyedH kd bd)), .int .i64 (keyedE n)]) ∧ Below w.heap.size w w' := by
  have N1 := Lib.hid (res_new w)
  have N2 := Lib.hid (Below.new w (.cells (u8s z32) 24))
  have N3 : Hid ((w.alloc (.cells (u8s z32) 24)).heap.size = w.heap.size + 1) := Lib.hid (by simp)
  rw [u8s_z32] at N1 N2 N3
  have HK' := Lib.hid (hk.later N2.out N2.out.size)
  have HB' := Lib.hid (hb.later N2.out N2.out.size)
  have HT := Lib.hid (htab.below N2.out htab.lt)
  have HM := Lib.hid hm
  have HN := Lib.hid hn
  clear hk hb hm htab
  by_cases g : n = 0 ∨ 32 < n
  · have HE : Hid (keyedE n = 2) := Lib.hid (if_pos g)
    have HH : Hid (keyedH kd bd = z32) := Lib.hid (by unfold keyedH; rw [HN.out, if_pos g])
    have HB2 := Lib.hid (below_setRow (g := w.heap.size) (cs := u8s z32) N2.out (Nat.le_refl _))
    go_enter Tryd.func17, Tryd.ntmps17
    rcases g with g | g
    · subst g
      clear hn
      go_wp2_with (first | (refine wpList_buildTo rfl _ _ rfl _ rfl (u8s z32) (by kernel_rfl) ?_) | (refine st32 rfl _ _ rfl _ rfl _ z32 rfl N1.out rfl rfl ?_))
      exact bodyPost_ret (res_32e rfl _ _ w.heap.size z32 (.int .i64 2) rfl rfl N1.out.setRow rfl) rfl ⟨by rw [HE.out, HH.out], HB2.out⟩
    · have g1 : ¬ n = 0 := by omega
      have g2 : (32 : Int) < n := by omega
      clear hn
      go_wp2_with (first | (refine wpList_buildTo rfl _ _ rfl _ rfl (u8s z32) (by kernel_rfl) ?_) | (refine st32 rfl _ _ rfl _ rfl _ z32 rfl N1.out rfl rfl ?_))
      exact bodyPost_ret (res_32e rfl _ _ w.heap.size z32 (.int .i64 2) rfl rfl N1.out.setRow rfl) rfl ⟨by rw [HE.out, HH.out], HB2.out⟩
  · have HE : Hid (keyedE n = 0) := Lib.hid (if_neg g)
    have HH : Hid (keyedH kd bd = hashB kd bd) := Lib.hid (by unfold keyedH; rw [HN.out, if_neg g])
    have g1 : ¬ n = 0 := by omega
    have g2 : ¬ (32 : Int) < n := by omega
    have g3 : n ≤ 32 := by omega
    clear g hn
    go_enter Tryd.func17, Tryd.ntmps17
    go_wp2_with (fail)
    generalize w.alloc (.cells #[.int .u8 0, .int .u8 0, .int .u8 0, .int .u8 0, .int .u8 0, .int .u8 0, .int .u8 0, .int .u8 0, .int .u8 0, .int .u8 0, .int .u8 0, .int .u8 0, .int .u8 0, .int .u8 0, .int .u8 0, .int .u8 0, .int .u8 0, .int .u8 0, .int .u8 0, .int .u8 0, .int .u8 0, .int .u8 0, .int .u8 0, .int .u8 0, .int .u8 0, .int .u8 0, .int .u8 0, .int .u8 0, .int .u8 0, .int .u8 0, .int .u8 0, .int .u8 0] 24) = W1 at *
    refine (hash_any A B n c m cb kd bd W1 HN.out g3 HK'.out HB'.out HM.out HT.out).mono ?_
    rintro e w2 ⟨rfl, h2⟩
    have R2 := Lib.hid (N1.out.below h2 (by rw [N3.out]; omega))
    have B2 := Lib.hid (below_setRow (g := w.heap.size) (cs := u8s (hashB kd bd)) (N2.out.trans (h2.mono (by rw [N3.out]; omega))) (Nat.le_refl _))
    clear h2 N1 N2
    go_wp2_with (refine st32 rfl _ _ rfl _ rfl _ _ rfl R2.out (hashB_len kd bd) rfl ?_)
    exact bodyPost_ret (res_32e rfl _ _ w.heap.size _ (.int .i64 0) rfl rfl R2.out.setRow (hashB_len kd bd)) rfl ⟨by rw [HE.out, HH.out], B2.out⟩
/-- New of a key of at most 32 bytes. -/
theorem new_any (A : Option Addr) (n c : Nat) (kd : List Int) (w : World) (hn : kd.length = n) (h32 : n ≤ 32) (hk : PartAt w w.heap.size (.slice A n c) kd) (htab : Tabs w) :
    Calls Tryd.prog 18 #[.slice A n c] w fun e w' => (∃ (g : Nat) (x : Hst), e = .returned (.tuple #[.pointer (some ⟨g, 0, none⟩), .int .i64 0]) ∧ w.heap.size ≤ g ∧ HashAt w' g x ∧ Inv x (hk0 n) (kmsg kd) ∧ x.head = khead n) ∧ Below w.heap.size w w' := by
  have HK := Lib.hid hk
  have HT := Lib.hid htab
  have HN := Lib.hid hn
  have g2 : ¬ (32 : Int) < n := by omega
  have hzv := zeroH
  clear hk htab hn
  go_enter Tryd.func18, Tryd.ntmps18
  go_wp2_with (fail)
  refine (start_any A n c kd w HN.out h32 HK.out HT.out).mono ?_
  rintro e W2 ⟨⟨x, rfl, hx1, hx2, hx3⟩, hb2⟩
  have HX1 := Lib.hid hx1
  have q3 := Lib.hid (show Below W2.heap.size W2 ((W2.alloc (.cells zH.toArray 71)).setRow W2.heap.size (hcells x).toArray) from below_setRow (Below.new W2 _) (Nat.le_refl _))
  have Z3 : Hid ((W2.alloc (.cells zH.toArray 71)).heap[W2.heap.size]? = some (.cells zH.toArray 71 (0, 0))) := Lib.hid (heap_alloc_new W2 _)
  have Y3 := Lib.hid (show HashAt ((W2.alloc (.cells zH.toArray 71)).setRow W2.heap.size (hcells x).toArray) W2.heap.size x from ⟨setRow_heap _ _ zH.toArray _ 71 (0, 0) Z3.out, hx1⟩)
  have B3 := Lib.hid (hb2.trans (q3.out.mono hb2.size))
  have S3 := Lib.hid hb2.size
  have HX2 := Lib.hid hx2
  have HX3 := Lib.hid hx3
  clear hx1 hx2 hx3 hb2 q3
  go_wp2_with (refine stH rfl _ _ rfl W2.heap.size rfl zH.toArray x rfl Z3.out HX1.out rfl ?_)
  exact bodyPost_ret (v := .tuple #[.pointer (some ⟨W2.heap.size, 0, none⟩), .int .i64 0]) (by simp [results, Tryd.results18, go_sem]) rfl ⟨⟨W2.heap.size, x, rfl, S3.out, Y3.out, HX2.out, HX3.out⟩, B3.out⟩
/-- New of a longer key. -/
theorem new_no (A : Option Addr) (n c : Nat) (w : World) (h32 : 32 < n) :
    Calls Tryd.prog 18 #[.slice A n c] w fun e w' => e = .returned (.tuple #[.pointer none, .int .i64 2]) ∧ w' = w := by
  have g2 : (32 : Int) < n := by omega
  go_enter Tryd.func18, Tryd.ntmps18
  go_wp2_with (fail)
  exact bodyPost_ret (v := .tuple #[.pointer none, .int .i64 2]) (by simp [results, Tryd.results18, go_sem]) rfl ⟨rfl, rfl⟩
set_option maxRecDepth 100000 in
theorem write_any {w : World} {p : Nat} {x : Hst} {h0 msg : List Int} (h : HashAt w p x) (hi : Inv x h0 msg) (B : Option Addr) (m cb : Nat) (bd : List Int) (hb : PartAt w p (.slice B m cb) bd) (hp : 2 ≤ p) (htab : Tabs w) (hm : msg.length + bd.length < 100000000000) :
    Calls Tryd.prog 19 #[.pointer (some ⟨p, 0, none⟩), .slice B m cb] w fun e w' => e = .returned (.int .i64 0) ∧ (∃ x', HashAt w' p x' ∧ Inv x' h0 (msg ++ bd) ∧ x'.head = x.head) ∧ But p w w' := by
  have HI := Lib.hid (is_any h)
  have q4 := Below.new w (.cells #[.slice B m cb] 22)
  have hbu : But p w (w.alloc (.cells #[.slice B m cb] 22)) := But.of_below q4
  have C4 : (w.alloc (.cells #[.slice B m cb] 22)).cell? ⟨w.heap.size, 0, none⟩ = some (.slice B m cb) := by rw [cell_of_row _ _ _ _ 22 (0, 0) (heap_alloc_new w _)]; rfl
  have HA := Lib.hid (add_one p w.heap.size (.slice B m cb) bd msg h0 x _ (h.alloc _) hi (by have := h.lt; omega) C4 (hb.but hbu) hp (htab.but hbu hp) hm)
  have HB := Lib.hid hbu
  clear h hi hb htab hm q4 C4 hbu
  go_enter Tryd.func19, Tryd.ntmps19
  go_wp2_with (fail)
  refine HI.out.mono ?_
  rintro e w1 ⟨rfl, rfl⟩
  go_wp2_with (fail)
  refine HA.out.mono ?_
  rintro e w2 ⟨rfl, h1, h2⟩
  have h3 := HB.out.trans h2
  clear HA HB HI h2
  go_wp2_with (fail)
  go_ret
  exact ⟨rfl, h1, h3⟩
set_option maxRecDepth 100000 in
set_option maxHeartbeats 2000000 in
theorem msum_any {w : World} {p : Nat} {x : Hst} {h0 msg : List Int} (h : HashAt w p x) (hi : Inv x h0 msg) (htab : Tabs w) (hm : msg.length < 100000000000) :
    Calls Tryd.prog 20 #[.pointer (some ⟨p, 0, none⟩)] w fun e w' => e = .returned (.tuple #[.agg (u8s (bytesL (hashS h0 msg))), .int .i64 0]) ∧ Below w.heap.size w w' := by
  have N1 := Lib.hid (res_new w)
  have N2 := Lib.hid (Below.new w (.cells (u8s z32) 24))
  have N3 : Hid ((w.alloc (.cells (u8s z32) 24)).heap.size = w.heap.size + 1) := Lib.hid (by simp)
  have HY := Lib.hid (h.alloc (.cells (u8s z32) 24))
  rw [u8s_z32] at N1 N2 N3 HY
  have HT := Lib.hid (htab.below N2.out htab.lt)
  have HI := Lib.hid hi
  have HM := Lib.hid hm
  clear h hi htab hm
  go_enter Tryd.func20, Tryd.ntmps20
  go_wp2_with (fail)
  generalize w.alloc (.cells #[.int .u8 0, .int .u8 0, .int .u8 0, .int .u8 0, .int .u8 0, .int .u8 0, .int .u8 0, .int .u8 0, .int .u8 0, .int .u8 0, .int .u8 0, .int .u8 0, .int .u8 0, .int .u8 0, .int .u8 0, .int .u8 0, .int .u8 0, .int .u8 0, .int .u8 0, .int .u8 0, .int .u8 0, .int .u8 0, .int .u8 0, .int .u8 0, .int .u8 0, .int .u8 0, .int .u8 0, .int .u8 0, .int .u8 0, .int .u8 0, .int .u8 0, .int .u8 0] 24) = W1 at *
  refine (is_any HY.out).mono ?_
  rintro e w1 ⟨rfl, rfl⟩
  go_wp2_with (refine ldH rfl _ rfl p rfl x HY.out ?_)
  refine (finish_any x h0 msg w1 HY.out.2 HI.out HT.out (by have := HM.out; omega)).mono ?_
  rintro e w2 ⟨rfl, h2⟩
  have R2 := Lib.hid (N1.out.below h2 (by rw [N3.out]; omega))
  have B2 := Lib.hid (below_setRow (g := w.heap.size) (cs := u8s (bytesL (hashS h0 msg))) (N2.out.trans (h2.mono (by rw [N3.out]; omega))) (Nat.le_refl _))
  clear h2 N1 N2
  go_wp2_with (refine st32 rfl _ _ rfl _ rfl _ _ rfl R2.out (bytesL_len _) rfl ?_)
  exact bodyPost_ret (res_32e rfl _ _ w.heap.size _ (.int .i64 0) rfl rfl R2.out.setRow (bytesL_len _)) rfl ⟨rfl, B2.out⟩
theorem len_any {w : World} {p : Nat} {x : Hst} {h0 msg : List Int} (h : HashAt w p x) (hi : Inv x h0 msg) (hm : msg.length < 100000000000) (hh : x.head ≤ msg.length) :
    Calls Tryd.prog 21 #[.pointer (some ⟨p, 0, none⟩)] w fun e w' => e = .returned (.int .i64 ((msg.length - x.head : Nat) : Int)) ∧ ∃ n, w' = w.drewN n := by
  have HI := Lib.hid (is_any h)
  have c9 := (h.cell 9).trans (hcells_before h.2)
  have c74 := (h.cell 74).trans (hcells_used h.2)
  have c75 := (h.cell 75).trans (hcells_head h.2)
  have hb := hi.before
  have hu := hi.used
  have hs : x.before + x.used = msg.length := by rw [hb]; omega
  obtain ⟨bf, hbf⟩ : ∃ b, x.before = b := ⟨_, rfl⟩
  obtain ⟨u, huu⟩ : ∃ b, x.used = b := ⟨_, rfl⟩
  obtain ⟨hd, hhd⟩ : ∃ b, x.head = b := ⟨_, rfl⟩
  rw [hbf] at c9 hs
  rw [huu] at c74 hs
  rw [hhd] at c75 hh ⊢
  have hw : IntKind.i64.wrap (bf : Int) = bf := by rw [IntKind.wrap_i64]; omega
  have k1 : (bf : Int) + u < 100000000000 := by omega
  have k2 : (hd : Int) ≤ (bf : Int) + u := by omega
  have k3 : ((msg.length - hd : Nat) : Int) = (bf : Int) + u - hd := by omega
  rw [k3]
  clear h hi hm hh hb hu hs hbf huu hhd k3
  go_enter Tryd.func21, Tryd.ntmps21
  go_wp2_with (fail)
  refine HI.out.mono ?_
  rintro e w1 ⟨rfl, rfl⟩
  go_wp2_with (fail)
  go_quiet (fail)
  go_wp2_with (fail)
  go_ret
  exact ⟨rfl, _, rfl⟩
theorem copy_any {w : World} {p : Nat} {x : Hst} (h : HashAt w p x) :
    Calls Tryd.prog 22 #[.pointer (some ⟨p, 0, none⟩)] w fun e w' => (∃ g, e = .returned (.pointer (some ⟨g, 0, none⟩)) ∧ w.heap.size ≤ g ∧ HashAt w' g x) ∧ Below w.heap.size w w' := by
  have HI := Lib.hid (is_any h)
  have HY := Lib.hid (h.alloc (.cells zH.toArray 71))
  have Z3 : Hid ((w.alloc (.cells zH.toArray 71)).heap[w.heap.size]? = some (.cells zH.toArray 71 (0, 0))) := Lib.hid (heap_alloc_new w _)
  have Y3 := Lib.hid (show HashAt ((w.alloc (.cells zH.toArray 71)).setRow w.heap.size (hcells x).toArray) w.heap.size x from ⟨setRow_heap _ _ zH.toArray _ 71 (0, 0) Z3.out, h.2⟩)
  have B3 := Lib.hid (below_setRow (g := w.heap.size) (cs := (hcells x).toArray) (Below.new w (.cells zH.toArray 71)) (Nat.le_refl _))
  have HX := Lib.hid h
  have hzv := zeroH
  clear h
  go_enter Tryd.func22, Tryd.ntmps22
  go_wp2_with (fail)
  refine HI.out.mono ?_
  rintro e w1 ⟨rfl, rfl⟩
  go_wp2_with (first | (refine ldH rfl _ rfl p rfl x HX.out ?_) | (refine stH rfl _ _ rfl w1.heap.size rfl zH.toArray x rfl Z3.out HX.out.2 rfl ?_))
  go_ret
  exact ⟨⟨_, rfl, Nat.le_refl _, Y3.out⟩, B3.out⟩
end Go.Proofs.YtdjfklllfbenjaaDoor
