/- law06's form. -/
import Derived.Test.YtocdjieaphkbdaaWx2
import Derived.Test.YtocdjieaphkbdaaWv
namespace Go.Proofs.Ytocdjieaphkbdaa
open Go.RowKit

/-- What form gives. -/
def okV (v : WV) : Bool := decide (¬ v.bad)
def formL (v : WV) : List Int := if v.bad then [] else v.enc
theorem formL_bad {v : WV} (h : v.bad) : formL v = [] := by unfold formL; rw [if_pos h]
theorem formL_ok {v : WV} (h : ¬ v.bad) : formL v = v.enc := by unfold formL; rw [if_neg h]
set_option maxRecDepth 100000 in
set_option maxHeartbeats 4000000 in
theorem form_any {w : World} {P : Nat → Prop} {y : WV} (ht : Rw w P .u8 y.tv y.text) (hl : Rw w P .i64 y.lv y.list) (hk : y.kind < 256) (hn : -9223372036854775808 ≤ y.num ∧ y.num ≤ 9223372036854775807) (hi : I64s y.list) (h1 : y.text.length ≤ 200) (h2 : y.list.length ≤ 50) :
    Calls Try.prog 13 #[.agg #[.int .u8 y.kind, .int .i64 y.num, y.tv, y.lv]] w fun r w' => ∃ v', r = .returned (.tuple #[v', .bool (okV y)]) ∧ Ow 5 .u8 w' w.heap.size v' (formL y) ∧ Ch No w w' := by
  obtain ⟨q, hq⟩ : ∃ q, w.heap.size = q := ⟨_, rfl⟩
  obtain ⟨tA, tc, et, -⟩ := ht.shape
  obtain ⟨lA, lc, el, -⟩ := hl.shape
  obtain ⟨c0, c1, c2, c3⟩ := four w (.int .u8 y.kind) (.int .i64 y.num) (.slice tA y.text.length tc) (.slice lA y.list.length lc) 35
  have k1 := Ch.new w (.cells #[.int .u8 y.kind, .int .i64 y.num, .slice tA y.text.length tc, .slice lA y.list.length lc] 35)
  rw [et] at ht ⊢
  rw [el] at hl ⊢
  have ht1 := ht.ch k1 fun _ _ _ h => h
  have hl1 := hl.ch k1 fun _ _ _ h => h
  rw [hq] at c0 c1 c2 c3
  have K1 := Lib.hid k1
  have HQ := Lib.hid hq
  have hsz : (w.alloc (.cells #[.int .u8 y.kind, .int .i64 y.num, .slice tA y.text.length tc, .slice lA y.list.length lc] 35)).heap.size = q + 1 := by simp [hq]
  have HSZ := Lib.hid hsz
  generalize hW : w.alloc (.cells #[.int .u8 y.kind, .int .i64 y.num, .slice tA y.text.length tc, .slice lA y.list.length lc] 35) = W1 at *
  have hbox : w.alloc (.cells #[.int .u8 y.kind, .int .i64 y.num, .slice tA y.text.length tc, .slice lA y.list.length lc] 35) = W1 := hW
  obtain ⟨z, hz⟩ : ∃ z : Nat, y.kind % 6 = z := ⟨_, rfl⟩
  have hz6 : z < 6 := by omega
  have hzi : (y.kind : Int) % 6 = (z : Int) := by omega
  have HL1 := Lib.hid (show W1.heap.size = q + 1 from hsz)
  clear hsz
  rcases (by omega : z = 0 ∨ z = 1 ∨ z = 2 ∨ z = 3 ∨ z = 4 ∨ z = 5) with rfl | rfl | rfl | rfl | rfl | rfl
  · by_cases g : y.num < 0
    · have HD : Hid (okV y = false) := Lib.hid (by simp [okV, WV.bad, hz, g])
      have HFL : Hid (formL y = []) := Lib.hid (formL_bad ⟨hz, g⟩)
      clear ht hl ht1 hl1 hi et el k1 h1 h2 hz
      subst hW
      go_enter Try.func13, Try.ntmps13
      go_wp2_with (fail)
      exact bodyPost_ret (v := .tuple #[.slice none 0 0, .bool false]) (by simp [results, Try.results13, go_sem]) rfl ⟨_, by rw [HD.out], by rw [HFL.out]; exact Ow.nil_, K1.out⟩
    obtain ⟨m, hm⟩ : ∃ m : Nat, y.num = m := ⟨y.num.toNat, by omega⟩
    have hm2 : m < 9223372036854775808 := by omega
    have nb : ¬ y.bad := fun h => g h.2
    have HD : Hid (okV y = true) := Lib.hid (by simp [okV, nb])
    have HFL : Hid (formL y = grp m) := Lib.hid (by rw [formL_ok nb]; unfold WV.enc; rw [if_pos hz, hm, Int.toNat_natCast])
    have hw : IntKind.u64.wrap (m : Int) = m := by rw [IntKind.wrap_u64]; omega
    have gm : ¬ (m : Int) < 0 := by omega
    have HC := Lib.hid (refGroup_any (w := W1) (n := m) (by omega))
    rw [hm] at c1 hbox hW ⊢
    clear nb g hn hz hm2 hm
    clear ht hl ht1 hl1 hi et el k1 h1 h2
    subst hW
    go_enter Try.func13, Try.ntmps13
    go_wp2_with (fail)
    refine HC.out.mono ?_
    rintro r w1 ⟨v1, rfl, o1, kk1⟩
    have O1 := Lib.hid (o1.less (B' := w.heap.size) K1.out.size)
    have KK1 := Lib.hid (K1.out.then kk1)
    clear o1 kk1
    go_wp2_with (fail)
    exact bodyPost_ret (v := .tuple #[v1, .bool true]) (by simp [results, Try.results13, go_sem]) rfl ⟨v1, by rw [HD.out], by rw [HFL.out]; exact O1.out, KK1.out⟩
  · have nb : ¬ y.bad := fun h => by have := h.1; omega
    have HD : Hid (okV y = true) := Lib.hid (by simp [okV, nb])
    have HFL : Hid (formL y = grp (fold y.num)) := Lib.hid (by rw [formL_ok nb]; unfold WV.enc; rw [if_neg (by omega), if_pos hz])
    clear nb
    have HC0 := Lib.hid (refFold_any (w := W1) hn.1 hn.2)
    have HC := Lib.hid (refGroup_any (w := W1) (n := fold y.num) (fold_lt hn.1 hn.2))
    clear hz
    clear ht hl ht1 hl1 hi et el k1 h1 h2
    subst hW
    go_enter Try.func13, Try.ntmps13
    go_wp2_with (fail)
    refine HC0.out.mono ?_
    rintro r w0 ⟨rfl, hw⟩
    rw [hw]
    clear hw
    go_wp2_with (fail)
    refine HC.out.mono ?_
    rintro r w1 ⟨v1, rfl, o1, kk1⟩
    have O1 := Lib.hid (o1.less (B' := w.heap.size) K1.out.size)
    have KK1 := Lib.hid (K1.out.then kk1)
    clear o1 kk1
    go_wp2_with (fail)
    exact bodyPost_ret (v := .tuple #[v1, .bool true]) (by simp [results, Try.results13, go_sem]) rfl ⟨v1, by rw [HD.out], by rw [HFL.out]; exact O1.out, KK1.out⟩
  · have nb : ¬ y.bad := fun h => by have := h.1; omega
    have HD : Hid (okV y = true) := Lib.hid (by simp [okV, nb])
    have HFL : Hid (formL y = [if y.num = 0 then 0 else 1]) := Lib.hid (by rw [formL_ok nb]; unfold WV.enc; rw [if_neg (by omega), if_neg (by omega), if_pos hz])
    clear nb
    clear hz
    by_cases g : y.num = 0
    · have gb : (y.num != 0) = false := by simp [g]
      have HO := Lib.hid (Ow.new (T := 5) (K := .u8) (w := W1) (B := w.heap.size) (cs := [0]) (n := 1) rfl (by decide) K1.out.size)
      rw [if_pos g] at HFL
      clear ht hl ht1 hl1 hi et el k1 h1 h2 g
      subst hW
      go_enter Try.func13, Try.ntmps13
      go_wp2_with (fail)
      have HO2 := HO.out
      rw [HSZ.out] at HO2
      exact bodyPost_ret (v := .tuple #[.slice (some ⟨q + 1, 0, none⟩) 1 1, .bool true]) (by simp [results, Try.results13, go_sem]) rfl ⟨_, by rw [HD.out], by rw [HFL.out]; exact HO2.less (Nat.le_of_eq HQ.out.symm), K1.out.alloc _⟩
    · have gb : (y.num != 0) = true := by simp [g]
      have HO := Lib.hid (Ow.new (T := 5) (K := .u8) (w := W1) (B := w.heap.size) (cs := [1]) (n := 1) rfl (by decide) K1.out.size)
      rw [if_neg g] at HFL
      clear ht hl ht1 hl1 hi et el k1 h1 h2 g
      subst hW
      go_enter Try.func13, Try.ntmps13
      go_wp2_with (fail)
      have HO2 := HO.out
      rw [HSZ.out] at HO2
      exact bodyPost_ret (v := .tuple #[.slice (some ⟨q + 1, 0, none⟩) 1 1, .bool true]) (by simp [results, Try.results13, go_sem]) rfl ⟨_, by rw [HD.out], by rw [HFL.out]; exact HO2.less (Nat.le_of_eq HQ.out.symm), K1.out.alloc _⟩
  · have nb : ¬ y.bad := fun h => by have := h.1; omega
    have HD : Hid (okV y = true) := Lib.hid (by simp [okV, nb])
    have HFL : Hid (formL y = grp y.text.length ++ y.text) := Lib.hid (by rw [formL_ok nb]; unfold WV.enc; rw [if_neg (by omega), if_neg (by omega), if_neg (by omega), if_pos (by omega)])
    clear nb
    have HC := Lib.hid (refString_any ht1 rfl (by omega))
    clear hz
    clear ht hl ht1 hl1 hi et el k1 h1 h2
    subst hW
    go_enter Try.func13, Try.ntmps13
    go_wp2_with (fail)
    refine HC.out.mono ?_
    rintro r w1 ⟨v1, rfl, o1, kk1⟩
    have O1 := Lib.hid (o1.less (B' := w.heap.size) K1.out.size)
    have KK1 := Lib.hid (K1.out.then kk1)
    clear o1 kk1
    go_wp2_with (fail)
    exact bodyPost_ret (v := .tuple #[v1, .bool true]) (by simp [results, Try.results13, go_sem]) rfl ⟨v1, by rw [HD.out], by rw [HFL.out]; exact O1.out, KK1.out⟩
  · have nb : ¬ y.bad := fun h => by have := h.1; omega
    have HD : Hid (okV y = true) := Lib.hid (by simp [okV, nb])
    have HFL : Hid (formL y = grp y.text.length ++ y.text) := Lib.hid (by rw [formL_ok nb]; unfold WV.enc; rw [if_neg (by omega), if_neg (by omega), if_neg (by omega), if_pos (by omega)])
    clear nb
    have HC := Lib.hid (refString_any ht1 rfl (by omega))
    clear hz
    clear ht hl ht1 hl1 hi et el k1 h1 h2
    subst hW
    go_enter Try.func13, Try.ntmps13
    go_wp2_with (fail)
    refine HC.out.mono ?_
    rintro r w1 ⟨v1, rfl, o1, kk1⟩
    have O1 := Lib.hid (o1.less (B' := w.heap.size) K1.out.size)
    have KK1 := Lib.hid (K1.out.then kk1)
    clear o1 kk1
    go_wp2_with (fail)
    exact bodyPost_ret (v := .tuple #[v1, .bool true]) (by simp [results, Try.results13, go_sem]) rfl ⟨v1, by rw [HD.out], by rw [HFL.out]; exact O1.out, KK1.out⟩
  · have nb : ¬ y.bad := fun h => by have := h.1; omega
    have HD : Hid (okV y = true) := Lib.hid (by simp [okV, nb])
    have HFL : Hid (formL y = grp y.list.length ++ intsL y.list) := Lib.hid (by rw [formL_ok nb]; unfold WV.enc; rw [if_neg (by omega), if_neg (by omega), if_neg (by omega), if_neg (by omega)])
    clear nb
    have HC := Lib.hid (refInts_any hl1 rfl hi (by omega))
    clear hz
    clear ht hl ht1 hl1 hi et el k1 h1 h2
    subst hW
    go_enter Try.func13, Try.ntmps13
    go_wp2_with (fail)
    refine HC.out.mono ?_
    rintro r w1 ⟨v1, rfl, o1, kk1⟩
    have O1 := Lib.hid (o1.less (B' := w.heap.size) K1.out.size)
    have KK1 := Lib.hid (K1.out.then kk1)
    clear o1 kk1
    go_wp2_with (fail)
    exact bodyPost_ret (v := .tuple #[v1, .bool true]) (by simp [results, Try.results13, go_sem]) rfl ⟨v1, by rw [HD.out], by rw [HFL.out]; exact O1.out, KK1.out⟩
end Go.Proofs.Ytocdjieaphkbdaa
