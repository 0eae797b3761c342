/- law06's write. -/
import Derived.Test.YtocdjieaphkbdaaWx0
namespace Go.Proofs.Ytocdjieaphkbdaa
open Go.RowKit

/-! ### A writer with an error -/
section
variable {w : World} {p : Nat} {v : Value} {x : Wst}
theorem uint_bad {n : Int} (h : WrAt w p v x) (he : ¬ x.er = 0) : Calls Try.prog 34 #[.pointer (some ⟨p, 0, none⟩), .int .i64 n] w fun r w' => r = .returned (.tuple #[]) ∧ Ch No w w' := by
  have H := Lib.hid (ready_1 h he)
  clear h he
  go_enter Try.func34, Try.ntmps34
  go_wp2_with (fail)
  refine H.out.mono ?_
  rintro e w1 ⟨rfl, hw⟩
  rw [hw]
  clear hw
  go_wp2_with (fail)
  first | go_end0 | refine bodyPost_ret (results_none rfl _ _ _) rfl ?_
  exact ⟨rfl, Ch.refl _ _⟩
theorem int_bad {n : Int} (h : WrAt w p v x) (he : ¬ x.er = 0) : Calls Try.prog 35 #[.pointer (some ⟨p, 0, none⟩), .int .i64 n] w fun r w' => r = .returned (.tuple #[]) ∧ Ch No w w' := by
  have H := Lib.hid (ready_1 h he)
  clear h he
  go_enter Try.func35, Try.ntmps35
  go_wp2_with (fail)
  refine H.out.mono ?_
  rintro e w1 ⟨rfl, hw⟩
  rw [hw]
  clear hw
  go_wp2_with (fail)
  first | go_end0 | refine bodyPost_ret (results_none rfl _ _ _) rfl ?_
  exact ⟨rfl, Ch.refl _ _⟩
theorem bytes_bad {A : Option Addr} {n c : Nat} (h : WrAt w p v x) (he : ¬ x.er = 0) : Calls Try.prog 42 #[.pointer (some ⟨p, 0, none⟩), .slice A n c] w fun r w' => r = .returned (.tuple #[]) ∧ Ch No w w' := by
  have H := Lib.hid (ready_1 h he)
  clear h he
  go_enter Try.func42, Try.ntmps42
  go_wp2_with (fail)
  refine H.out.mono ?_
  rintro e w1 ⟨rfl, hw⟩
  rw [hw]
  clear hw
  go_wp2_with (fail)
  first | go_end0 | refine bodyPost_ret (results_none rfl _ _ _) rfl ?_
  exact ⟨rfl, Ch.refl _ _⟩
theorem ints_bad {A : Option Addr} {n c : Nat} (h : WrAt w p v x) (he : ¬ x.er = 0) : Calls Try.prog 44 #[.pointer (some ⟨p, 0, none⟩), .slice A n c] w fun r w' => r = .returned (.tuple #[]) ∧ Ch No w w' := by
  have H := Lib.hid (ready_1 h he)
  clear h he
  go_enter Try.func44, Try.ntmps44
  go_wp2_with (fail)
  refine H.out.mono ?_
  rintro e w1 ⟨rfl, hw⟩
  rw [hw]
  clear hw
  go_wp2_with (fail)
  first | go_end0 | refine bodyPost_ret (results_none rfl _ _ _) rfl ?_
  exact ⟨rfl, Ch.refl _ _⟩
theorem bool_bad {b : Bool} (h : WrAt w p v x) (he : ¬ x.er = 0) : Calls Try.prog 41 #[.pointer (some ⟨p, 0, none⟩), .bool b] w fun r w' => r = .returned (.tuple #[]) ∧ Ch No w w' := by
  cases b with
  | false =>
    have HU := Lib.hid (uint_bad (n := 0) h he)
    clear h he
    go_enter Try.func41, Try.ntmps41
    go_wp2_with (fail)
    refine HU.out.mono ?_
    rintro e w1 ⟨rfl, h1⟩
    go_wp2_with (fail)
    first | go_end0 | refine bodyPost_ret (results_none rfl _ _ _) rfl ?_
    exact ⟨rfl, h1⟩
  | true =>
    have HU := Lib.hid (uint_bad (n := 1) h he)
    clear h he
    go_enter Try.func41, Try.ntmps41
    go_wp2_with (fail)
    refine HU.out.mono ?_
    rintro e w1 ⟨rfl, h1⟩
    go_wp2_with (fail)
    first | go_end0 | refine bodyPost_ret (results_none rfl _ _ _) rfl ?_
    exact ⟨rfl, h1⟩
theorem string_bad {s : ByteArray} (h : WrAt w p v x) (he : ¬ x.er = 0) : Calls Try.prog 43 #[.pointer (some ⟨p, 0, none⟩), .string s] w fun r w' => r = .returned (.tuple #[]) ∧ Ch No w w' := by
  obtain ⟨W', c, hcv, k1, -⟩ := conv_str w s
  have HC := Lib.hid (bytes_bad (A := some ⟨w.heap.size, 0, none⟩) (n := s.size) (c := c) (h.no k1) he)
  have K1 := Lib.hid k1
  clear h k1
  go_enter Try.func43, Try.ntmps43
  go_wp2_with (fail)
  refine HC.out.mono ?_
  rintro e w1 ⟨rfl, h1⟩
  have H1 := Lib.hid (K1.out.then h1)
  clear h1 hcv
  go_wp2_with (fail)
  first | go_end0 | refine bodyPost_ret (results_none rfl _ _ _) rfl ?_
  exact ⟨rfl, H1.out⟩
end
theorem numsOf_str {ds : List Int} (h : Bys8 ds) : numsOf (strOfNums ds) = ds := by
  unfold numsOf
  rw [strOfNums_data, List.map_map]
  have : ∀ z ∈ ds, ((fun b : UInt8 => ((b.toNat : Nat) : Int)) ∘ fun n : Int => UInt8.ofNat n.toNat) z = z := fun z hz => by
    have := h z hz
    unfold By at this
    simp only [Function.comp]
    rw [UInt8.toNat_ofNat']
    omega
  exact (List.map_congr_left this).trans (List.map_id' ds)
/-- A value that has no encoding. -/
def WV.bad (v : WV) : Prop := v.kind % 6 = 0 ∧ v.num < 0
instance (v : WV) : Decidable v.bad := by unfold WV.bad; exact inferInstance
/-- The encoding of a value. -/
def WV.enc (v : WV) : List Int :=
  if v.kind % 6 = 0 then grp v.num.toNat else if v.kind % 6 = 1 then grp (fold v.num) else if v.kind % 6 = 2 then [if v.num = 0 then 0 else 1]
  else if v.kind % 6 = 3 ∨ v.kind % 6 = 4 then grp v.text.length ++ v.text else grp v.list.length ++ intsL v.list
/-- Writing a value. -/
def wVal (x : Wst) (v : WV) : Wst := if x.er = 0 ∧ v.bad then ⟨2, x.out⟩ else wr x v.enc
theorem wVal_0 {x : Wst} {v : WV} (h : v.kind % 6 = 0) : wVal x v = wUint x v.num := by
  unfold wVal wUint WV.bad WV.enc
  rw [if_pos h]
  by_cases hc : x.er = 0 ∧ v.num < 0
  · rw [if_pos hc, if_pos ⟨hc.1, h, hc.2⟩]
  · rw [if_neg hc, if_neg fun h' => hc ⟨h'.1, h'.2.2⟩]
theorem wVal_n {x : Wst} {v : WV} (h : ¬ v.kind % 6 = 0) : wVal x v = wr x v.enc := by
  unfold wVal WV.bad
  rw [if_neg fun h' => h h'.2.1]
theorem wVal_1 {x : Wst} {v : WV} (h : v.kind % 6 = 1) : wVal x v = wInt x v.num := by
  rw [wVal_n (by omega)]; unfold WV.enc wInt; rw [if_neg (by omega), if_pos h]
theorem wVal_2 {x : Wst} {v : WV} (h : v.kind % 6 = 2) : wVal x v = wBool x (v.num != 0) := by
  rw [wVal_n (by omega)]; unfold WV.enc wBool; rw [if_neg (by omega), if_neg (by omega), if_pos h]
  by_cases hz : v.num = 0 <;> simp [hz]
theorem wVal_3 {x : Wst} {v : WV} (h : v.kind % 6 = 3 ∨ v.kind % 6 = 4) : wVal x v = wBytes x v.text := by
  rw [wVal_n (by omega)]; unfold WV.enc wBytes; rw [if_neg (by omega), if_neg (by omega), if_neg (by omega), if_pos h]
theorem wVal_5 {x : Wst} {v : WV} (h : v.kind % 6 = 5) : wVal x v = wInts x v.list := by
  rw [wVal_n (by omega)]; unfold WV.enc wInts; rw [if_neg (by omega), if_neg (by omega), if_neg (by omega), if_neg (by omega)]
set_option maxRecDepth 100000 in
set_option maxHeartbeats 4000000 in
theorem write_any {w : World} {P : Nat → Prop} {p : Nat} {v : Value} {x : Wst} {y : WV} (h : WrAt w p v x) (he : x.er = 0) (ht : Rw w P .u8 y.tv y.text) (hl : Rw w P .i64 y.lv y.list) (hk : y.kind < 256) (hn : -9223372036854775808 ≤ y.num ∧ y.num ≤ 9223372036854775807) (hb : Bys8 y.text) (hi : I64s y.list) (hP : ∀ i, i < w.heap.size → P i → i ≠ p ∧ ¬ Of v i) :
    Calls Try.prog 12 #[.pointer (some ⟨p, 0, none⟩), .agg #[.int .u8 y.kind, .int .i64 y.num, y.tv, y.lv]] w fun r w' => r = .returned (.tuple #[]) ∧ Wrote w w' p v (wVal x y) := by
  obtain ⟨q, hq⟩ : ∃ q, w.heap.size = q := ⟨_, rfl⟩
  obtain ⟨tA, tc, et, -⟩ := ht.shape
  obtain ⟨lA, lc, el, -⟩ := hl.shape
  obtain ⟨c0, c1, c2, c3⟩ := four w (.int .u8 y.kind) (.int .i64 y.num) (.slice tA y.text.length tc) (.slice lA y.list.length lc) 35
  have k1 := Ch.new w (.cells #[.int .u8 y.kind, .int .i64 y.num, .slice tA y.text.length tc, .slice lA y.list.length lc] 35)
  have h1 := h.no k1
  rw [et] at ht ⊢
  rw [el] at hl ⊢
  have ht1 := ht.ch k1 fun _ _ _ h => h
  have hl1 := hl.ch k1 fun _ _ _ h => h
  have hP1 : ∀ i, i < (w.alloc (.cells #[.int .u8 y.kind, .int .i64 y.num, .slice tA y.text.length tc, .slice lA y.list.length lc] 35)).heap.size → (fun i => i < w.heap.size ∧ P i) i → i ≠ p ∧ ¬ Of v i := fun i _ h' => hP i h'.1 h'.2
  have hv1 : ∀ b, v.ownBlock = some b → b < (w.alloc (.cells #[.int .u8 y.kind, .int .i64 y.num, .slice tA y.text.length tc, .slice lA y.list.length lc] 35)).heap.size := fun b e => ((h1.2 he).1.lt e).2
  have ht2 := (ht.mono (P' := fun i => i < w.heap.size ∧ P i) fun i hi h => ⟨hi, h⟩).ch k1 fun _ _ _ h => h
  have hl2 := (hl.mono (P' := fun i => i < w.heap.size ∧ P i) fun i hi h => ⟨hi, h⟩).ch k1 fun _ _ _ h => h
  have hcv := conv_rw ht1
  rw [hq] at c0 c1 c2 c3
  have K1 := Lib.hid k1
  generalize hW : w.alloc (.cells #[.int .u8 y.kind, .int .i64 y.num, .slice tA y.text.length tc, .slice lA y.list.length lc] 35) = W1 at *
  have hbox : w.alloc (.cells #[.int .u8 y.kind, .int .i64 y.num, .slice tA y.text.length tc, .slice lA y.list.length lc] 35) = W1 := hW
  obtain ⟨z, hz⟩ : ∃ z : Nat, y.kind % 6 = z := ⟨_, rfl⟩
  have hz6 : z < 6 := by omega
  have hzi : (y.kind : Int) % 6 = (z : Int) := by omega
  rcases (by omega : z = 0 ∨ z = 1 ∨ z = 2 ∨ z = 3 ∨ z = 4 ∨ z = 5) with rfl | rfl | rfl | rfl | rfl | rfl
  · have HC := Lib.hid (uint_any (n := y.num) h1 hn.2)
    have HE : Hid (wVal x y = _) := Lib.hid (wVal_0 hz)
    clear h h1 ht hl ht1 hl1 hP hb hi hn et el hz ht2 hl2 hP1 hv1 k1
    subst hW
    go_enter Try.func12, Try.ntmps12
    go_wp2_with (fail)
    refine HC.out.mono ?_
    rintro e w1 ⟨rfl, h1⟩
    have H1 := Lib.hid (wrote_after K1.out h1)
    clear h1
    go_wp2_with (fail)
    first | go_end0 | refine bodyPost_ret (results_none rfl _ _ _) rfl ?_
    exact ⟨rfl, by rw [HE.out]; exact H1.out⟩
  · have HC := Lib.hid (int_any (n := y.num) h1 hn.1 hn.2)
    have HE : Hid (wVal x y = _) := Lib.hid (wVal_1 hz)
    clear h h1 ht hl ht1 hl1 hP hb hi hn et el hz ht2 hl2 hP1 hv1 k1
    subst hW
    go_enter Try.func12, Try.ntmps12
    go_wp2_with (fail)
    refine HC.out.mono ?_
    rintro e w1 ⟨rfl, h1⟩
    have H1 := Lib.hid (wrote_after K1.out h1)
    clear h1
    go_wp2_with (fail)
    first | go_end0 | refine bodyPost_ret (results_none rfl _ _ _) rfl ?_
    exact ⟨rfl, by rw [HE.out]; exact H1.out⟩
  · have HC := Lib.hid (bool_any (b := y.num != 0) h1)
    have HE : Hid (wVal x y = _) := Lib.hid (wVal_2 hz)
    clear h h1 ht hl ht1 hl1 hP hb hi hn et el hz ht2 hl2 hP1 hv1 k1
    subst hW
    go_enter Try.func12, Try.ntmps12
    go_wp2_with (fail)
    refine HC.out.mono ?_
    rintro e w1 ⟨rfl, h1⟩
    have H1 := Lib.hid (wrote_after K1.out h1)
    clear h1
    go_wp2_with (fail)
    first | go_end0 | refine bodyPost_ret (results_none rfl _ _ _) rfl ?_
    exact ⟨rfl, by rw [HE.out]; exact H1.out⟩
  · have HC := Lib.hid (bytes_any h1 ht2 rfl hP1)
    have HE : Hid (wVal x y = _) := Lib.hid (wVal_3 (.inl hz))
    clear h h1 ht hl ht1 hl1 hP hb hi hn et el hz ht2 hl2 hP1 hv1 k1
    subst hW
    go_enter Try.func12, Try.ntmps12
    go_wp2_with (fail)
    refine HC.out.mono ?_
    rintro e w1 ⟨rfl, h1⟩
    have H1 := Lib.hid (wrote_after K1.out h1)
    clear h1
    go_wp2_with (fail)
    first | go_end0 | refine bodyPost_ret (results_none rfl _ _ _) rfl ?_
    exact ⟨rfl, by rw [HE.out]; exact H1.out⟩
  · have HC := Lib.hid (string_any (s := strOfNums y.text) h1 hv1)
    have HE : Hid (wVal x y = _) := Lib.hid (wVal_3 (.inr hz))
    rw [numsOf_str hb] at HC
    clear h h1 ht hl ht1 hl1 hP hb hi hn et el hz ht2 hl2 hP1 hv1 k1
    subst hW
    go_enter Try.func12, Try.ntmps12
    go_wp2_with (fail)
    refine HC.out.mono ?_
    rintro e w1 ⟨rfl, h1⟩
    have H1 := Lib.hid (wrote_after K1.out h1)
    clear h1
    go_wp2_with (fail)
    first | go_end0 | refine bodyPost_ret (results_none rfl _ _ _) rfl ?_
    exact ⟨rfl, by rw [HE.out]; exact H1.out⟩
  · have HC := Lib.hid (ints_any h1 hl2 rfl hi hP1)
    have HE : Hid (wVal x y = _) := Lib.hid (wVal_5 hz)
    clear h h1 ht hl ht1 hl1 hP hb hi hn et el hz ht2 hl2 hP1 hv1 k1
    subst hW
    go_enter Try.func12, Try.ntmps12
    go_wp2_with (fail)
    refine HC.out.mono ?_
    rintro e w1 ⟨rfl, h1⟩
    have H1 := Lib.hid (wrote_after K1.out h1)
    clear h1
    go_wp2_with (fail)
    first | go_end0 | refine bodyPost_ret (results_none rfl _ _ _) rfl ?_
    exact ⟨rfl, by rw [HE.out]; exact H1.out⟩
set_option maxRecDepth 100000 in
set_option maxHeartbeats 4000000 in
theorem write_bad {w : World} {P : Nat → Prop} {p : Nat} {v : Value} {x : Wst} {y : WV} (h : WrAt w p v x) (he : ¬ x.er = 0) (ht : Rw w P .u8 y.tv y.text) (hl : Rw w P .i64 y.lv y.list) (hk : y.kind < 256) (hn : -9223372036854775808 ≤ y.num ∧ y.num ≤ 9223372036854775807) (hb : Bys8 y.text) (hi : I64s y.list) :
    Calls Try.prog 12 #[.pointer (some ⟨p, 0, none⟩), .agg #[.int .u8 y.kind, .int .i64 y.num, y.tv, y.lv]] w fun r w' => r = .returned (.tuple #[]) ∧ Ch No w w' := by
  obtain ⟨q, hq⟩ : ∃ q, w.heap.size = q := ⟨_, rfl⟩
  obtain ⟨tA, tc, et, -⟩ := ht.shape
  obtain ⟨lA, lc, el, -⟩ := hl.shape
  obtain ⟨c0, c1, c2, c3⟩ := four w (.int .u8 y.kind) (.int .i64 y.num) (.slice tA y.text.length tc) (.slice lA y.list.length lc) 35
  have k1 := Ch.new w (.cells #[.int .u8 y.kind, .int .i64 y.num, .slice tA y.text.length tc, .slice lA y.list.length lc] 35)
  have h1 := h.no k1
  rw [et] at ht ⊢
  rw [el] at hl ⊢
  have ht1 := ht.ch k1 fun _ _ _ h => h
  have hl1 := hl.ch k1 fun _ _ _ h => h
  have hcv := conv_rw ht1
  rw [hq] at c0 c1 c2 c3
  have K1 := Lib.hid k1
  generalize hW : w.alloc (.cells #[.int .u8 y.kind, .int .i64 y.num, .slice tA y.text.length tc, .slice lA y.list.length lc] 35) = W1 at *
  have hbox : w.alloc (.cells #[.int .u8 y.kind, .int .i64 y.num, .slice tA y.text.length tc, .slice lA y.list.length lc] 35) = W1 := hW
  obtain ⟨z, hz⟩ : ∃ z : Nat, y.kind % 6 = z := ⟨_, rfl⟩
  have hz6 : z < 6 := by omega
  have hzi : (y.kind : Int) % 6 = (z : Int) := by omega
  rcases (by omega : z = 0 ∨ z = 1 ∨ z = 2 ∨ z = 3 ∨ z = 4 ∨ z = 5) with rfl | rfl | rfl | rfl | rfl | rfl
  · have HC := Lib.hid (uint_bad (n := y.num) h1 he)
    clear h h1 ht hl ht1 hl1  hb hi hn et el hz k1
    subst hW
    go_enter Try.func12, Try.ntmps12
    go_wp2_with (fail)
    refine HC.out.mono ?_
    rintro e w1 ⟨rfl, h1⟩
    have H1 := Lib.hid (K1.out.then h1)
    clear h1
    go_wp2_with (fail)
    first | go_end0 | refine bodyPost_ret (results_none rfl _ _ _) rfl ?_
    exact ⟨rfl, H1.out⟩
  · have HC := Lib.hid (int_bad (n := y.num) h1 he)
    clear h h1 ht hl ht1 hl1  hb hi hn et el hz k1
    subst hW
    go_enter Try.func12, Try.ntmps12
    go_wp2_with (fail)
    refine HC.out.mono ?_
    rintro e w1 ⟨rfl, h1⟩
    have H1 := Lib.hid (K1.out.then h1)
    clear h1
    go_wp2_with (fail)
    first | go_end0 | refine bodyPost_ret (results_none rfl _ _ _) rfl ?_
    exact ⟨rfl, H1.out⟩
  · have HC := Lib.hid (bool_bad (b := y.num != 0) h1 he)
    clear h h1 ht hl ht1 hl1  hb hi hn et el hz k1
    subst hW
    go_enter Try.func12, Try.ntmps12
    go_wp2_with (fail)
    refine HC.out.mono ?_
    rintro e w1 ⟨rfl, h1⟩
    have H1 := Lib.hid (K1.out.then h1)
    clear h1
    go_wp2_with (fail)
    first | go_end0 | refine bodyPost_ret (results_none rfl _ _ _) rfl ?_
    exact ⟨rfl, H1.out⟩
  · have HC := Lib.hid (bytes_bad (A := tA) (n := y.text.length) (c := tc) h1 he)
    clear h h1 ht hl ht1 hl1  hb hi hn et el hz k1
    subst hW
    go_enter Try.func12, Try.ntmps12
    go_wp2_with (fail)
    refine HC.out.mono ?_
    rintro e w1 ⟨rfl, h1⟩
    have H1 := Lib.hid (K1.out.then h1)
    clear h1
    go_wp2_with (fail)
    first | go_end0 | refine bodyPost_ret (results_none rfl _ _ _) rfl ?_
    exact ⟨rfl, H1.out⟩
  · have HC := Lib.hid (string_bad (s := strOfNums y.text) h1 he)
    clear h h1 ht hl ht1 hl1  hb hi hn et el hz k1
    subst hW
    go_enter Try.func12, Try.ntmps12
    go_wp2_with (fail)
    refine HC.out.mono ?_
    rintro e w1 ⟨rfl, h1⟩
    have H1 := Lib.hid (K1.out.then h1)
    clear h1
    go_wp2_with (fail)
    first | go_end0 | refine bodyPost_ret (results_none rfl _ _ _) rfl ?_
    exact ⟨rfl, H1.out⟩
  · have HC := Lib.hid (ints_bad (A := lA) (n := y.list.length) (c := lc) h1 he)
    clear h h1 ht hl ht1 hl1  hb hi hn et el hz k1
    subst hW
    go_enter Try.func12, Try.ntmps12
    go_wp2_with (fail)
    refine HC.out.mono ?_
    rintro e w1 ⟨rfl, h1⟩
    have H1 := Lib.hid (K1.out.then h1)
    clear h1
    go_wp2_with (fail)
    first | go_end0 | refine bodyPost_ret (results_none rfl _ _ _) rfl ?_
    exact ⟨rfl, H1.out⟩
end Go.Proofs.Ytocdjieaphkbdaa
