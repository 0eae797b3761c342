/- Package seal: Open. -/
import Derived.Test.YtdjfklllfbenjaaDoorEf
import Derived.Deep.RegionWith
namespace Go.Proofs.YtdjfklllfbenjaaDoor
open Go.RowKit

/-- A part of bytes that lie anywhere. -/
theorem PartAt.cut {w : World} {b o n c i j : Nat} {ds : List Int} (h : PartAt w w.heap.size (.slice (some ⟨b, o, none⟩) n c) ds) (hn : ds.length = n) (hi : i ≤ j) (hj : j ≤ n) :
    PartAt w w.heap.size (.slice (some ⟨b, o + i, none⟩) (j - i) (c - i)) ((ds.take j).drop i) := by
  obtain ⟨A, c', e, hle, hA⟩ := h
  have hl : ((ds.take j).drop i).length = j - i := by rw [List.length_drop, List.length_take]; omega
  simp at e
  obtain ⟨e1, e2, e3⟩ := e
  subst e1 e3
  refine ⟨_, c - i, by rw [hl], by rw [hl]; omega, fun h0 => ?_⟩
  rw [hl] at h0
  obtain ⟨b', o', e4, h1, h2, h3⟩ := hA (by omega)
  simp at e4
  obtain ⟨e4, e5⟩ := e4
  subst e4 e5
  refine ⟨b, o + i, rfl, h1, h2, fun k hk => ?_⟩
  rw [hl] at hk
  rw [Nat.add_assoc, h3 (i + k) (by omega)]
  congr 2
  unfold at_
  rw [List.getElem?_drop, List.getElem?_take_of_lt (by omega)]
set_option maxRecDepth 100000 in
set_option maxHeartbeats 2000000 in
theorem Open_key (A D : Option Addr) (n c m cd : Nat) (w : World) (h : n ≠ 32) :
    Calls Tryd.prog 31 #[.slice A n c, .slice D m cd] w fun e w' => e = .returned (.tuple #[.slice none 0 0, .int .i64 2]) ∧ w' = w := by
  have g1 : ¬ (n : Int) = 32 := by omega
  go_enter Tryd.func31, Tryd.ntmps31
  go_wp2_with (fail)
  exact bodyPost_ret (v := .tuple #[.slice none 0 0, .int .i64 2]) (by simp [results, Tryd.results31, go_sem]) rfl ⟨rfl, rfl⟩
set_option maxRecDepth 100000 in
set_option maxHeartbeats 4000000 in
theorem Open_any (A D : Option Addr) (c m cd : Nat) (kd bd : List Int) (w : World) (hkl : kd.length = 32) (hk : PartAt w w.heap.size (.slice A 32 c) kd) (hdl : bd.length = m) (hd : PartAt w w.heap.size (.slice D m cd) bd) (hbb : Bys8 bd) (htab : Tabs w) :
    Calls Tryd.prog 31 #[.slice A 32 c, .slice D m cd] w fun e w' => (∃ v, e = .returned (.tuple #[v, .int .i64 (openE kd bd)]) ∧ Own w' w.heap.size v (openP kd bd)) ∧ Below w.heap.size w w' := by
  rcases Nat.lt_or_ge m 32 with g | g
  · have e1 : openE kd bd = 4 := by unfold openE; rw [if_pos (by omega)]
    have e2 : openP kd bd = [] := by unfold openP; rw [e1, if_neg (by decide)]
    rw [e1, e2]
    clear hkl hk hdl hd hbb htab e1 e2
    have gI : (m : Int) < 32 := by omega
    go_enter Tryd.func31, Tryd.ntmps31
    go_wp2_with (fail)
    exact bodyPost_ret (v := .tuple #[.slice none 0 0, .int .i64 4]) (by simp [results, Tryd.results31, go_sem]) rfl ⟨⟨_, rfl, Own.nil_ _ _⟩, Below.refl _ _⟩
  rcases Nat.lt_or_ge 65536 m with g5 | g5
  · have e1 : openE kd bd = 5 := by unfold openE; rw [if_neg (by omega), if_pos (by omega)]
    have e2 : openP kd bd = [] := by unfold openP; rw [e1, if_neg (by decide)]
    rw [e1, e2]
    clear hkl hk hdl hd hbb htab e1 e2
    have gI : ¬ (m : Int) < 32 := by omega
    have gJ : (65536 : Int) < m := by omega
    go_enter Tryd.func31, Tryd.ntmps31
    go_wp2_with (fail)
    exact bodyPost_ret (v := .tuple #[.slice none 0 0, .int .i64 5]) (by simp [results, Tryd.results31, go_sem]) rfl ⟨⟨_, rfl, Own.nil_ _ _⟩, Below.refl _ _⟩
  obtain ⟨z, rfl⟩ : ∃ z, m = z + 16 := ⟨m - 16, by omega⟩
  obtain ⟨b, o, rfl, -, -⟩ := hd.cell_ (by omega)
  have hcap : z + 16 ≤ cd := by
    obtain ⟨A', c', e, hle, -⟩ := hd
    simp at e
    omega
  have PT := Lib.hid (hd.cut (i := 0) (j := z) hdl (by omega) (by omega))
  have PM := Lib.hid (hd.cut (i := z) (j := z + 16) hdl (by omega) (by omega))
  have PN := Lib.hid (hd.cut (i := 0) (j := 16) hdl (by omega) (by omega))
  have PC := Lib.hid (hd.cut (i := 16) (j := z) hdl (by omega) (by omega))
  simp only [Nat.add_zero, Nat.sub_zero, List.drop_zero, Nat.add_sub_cancel_left] at PT PM PN PC
  rw [List.take_of_length_le (l := bd) (i := z + 16) (by omega)] at PM
  have lT : (bd.take z).length = z := by rw [List.length_take]; omega
  have lM : (bd.drop z).length = 16 := by rw [List.length_drop]; omega
  have lN : (bd.take 16).length = 16 := by rw [List.length_take]; omega
  have lC : ((bd.take z).drop 16).length = z - 16 := by rw [List.length_drop, lT]
  have HE : Hid (openE kd bd = if bd.drop z = tagL kd (bd.take z) then 0 else 10) := Lib.hid (by unfold openE; rw [if_neg (by omega), if_neg (by omega), hdl, Nat.add_sub_cancel])
  have HO : Hid (openP kd bd = if openE kd bd = 0 then maskL kd (bd.take 16) ((bd.take z).drop 16) else []) := Lib.hid (by unfold openP; rw [hdl, Nat.add_sub_cancel])
  have HBY := Lib.hid hbb
  have HK := Lib.hid hk
  have HKL := Lib.hid hkl
  have HT := Lib.hid htab
  have HLL := Lib.hid (show _ ∧ _ ∧ _ from ⟨lM, lN, lC⟩)
  clear hk hkl hd hbb htab lT lM lN lC hdl
  have g1 : ¬ (z : Int) + 16 < 32 := by omega
  have g2 : ¬ (65536 : Int) < (z : Int) + 16 := by omega
  have g3 : z ≤ cd := by omega
  have g4 : z ≤ z + 16 := by omega
  have g6 : (z : Int) ≤ cd := by omega
  have g7 : ¬ cd = z := by omega
  have g8 : ¬ z = cd := by omega
  go_enter Tryd.func31, Tryd.ntmps31
  go_upto_region 7 with (fail)
  go_region
  have hb1 : Below w.heap.size w w.drew := (Below.refl _ _).drew
  have HT1 := Lib.hid (HT.out.below hb1 HT.out.lt)
  have HK1 := Lib.hid (HK.out.later hb1 hb1.size)
  have PT1 := Lib.hid (PT.out.later hb1 hb1.size)
  have PM1 := Lib.hid (PM.out.later hb1 hb1.size)
  have PN1 := Lib.hid (PN.out.later hb1 hb1.size)
  have PC1 := Lib.hid (PC.out.later hb1 hb1.size)
  have B1 := Lib.hid hb1
  clear hb1 HT HK PT PM PN PC
  generalize w.drew = w1 at *
  have HC := Lib.hid (tag_any A (some ⟨b, o, none⟩) c z cd kd (bd.take z) w1 HKL.out HK1.out PT1.out (by rw [List.length_take]; omega) HT1.out)
  go_wp2_with (fail)
  refine HC.out.mono ?_
  rintro e w2 ⟨⟨g2, rfl, p2⟩, b2⟩
  have HC2 := Lib.hid (alike_any (some ⟨b, o + z, none⟩) (some ⟨g2, 0, none⟩) (cd - z) 32 16 (bd.drop z) (tagL kd (bd.take z)) w2 HLL.out.1 (PM1.out.later b2 b2.size) (tagL_len _ _) p2 (HBY.out.drop _) (tagL_by _ _) (by omega))
  have HT2 := Lib.hid (HT1.out.below b2 HT1.out.lt)
  have HK2 := Lib.hid (HK1.out.later b2 b2.size)
  have PN2 := Lib.hid (PN1.out.later b2 b2.size)
  have PC2 := Lib.hid (PC1.out.later b2 b2.size)
  have B2 := Lib.hid (B1.out.trans (b2.mono B1.out.size))
  clear HC p2 b2 HT1 HK1 PT1 PM1 PN1 PC1 B1
  by_cases ht : bd.drop z = tagL kd (bd.take z)
  · rw [decide_eq_true ht] at HC2
    have e1 : openE kd bd = 0 := by rw [HE.out, if_pos ht]
    have e2 := HO.out
    rw [e1, if_pos rfl] at e2
    have E1 := Lib.hid e1
    have E2 := Lib.hid e2
    clear e1 e2 HE HO ht
    go_wp2_with (fail)
    refine HC2.out.mono ?_
    rintro e w3 ⟨rfl, b3⟩
    have HC3 : Hid (∀ w', Below w3.heap.size w3 w' → Calls Tryd.prog 46 #[.slice A 32 c, .slice (some ⟨b, o, none⟩) 16 cd, .slice (some ⟨b, o + 16, none⟩) (z - 16) (cd - 16)] w' fun e w'' => (∃ v, e = .returned v ∧ Own w'' w3.heap.size v (maskL kd (bd.take 16) ((bd.take z).drop 16))) ∧ Below w3.heap.size w3 w'') := Lib.hid fun w' hb => (masked_any A (some ⟨b, o, none⟩) (some ⟨b, o + 16, none⟩) c cd (z - 16) (cd - 16) kd (bd.take 16) ((bd.take z).drop 16) w' HKL.out ((HK2.out.later b3 b3.size).later hb hb.size) HLL.out.2.1 ((PN2.out.later b3 b3.size).later hb hb.size) HLL.out.2.2 ((PC2.out.later b3 b3.size).later hb hb.size) (by omega) ((HT2.out.below b3 HT2.out.lt).below hb (Nat.le_trans HT2.out.lt b3.size))).mono fun e w'' ⟨⟨v, h1, h2⟩, h3⟩ => ⟨⟨v, h1, Own.less h2 hb.size⟩, hb.trans (h3.mono hb.size)⟩
    have B3 := Lib.hid (B2.out.trans (b3.mono B2.out.size))
    have S3 := Lib.hid B3.out.size
    clear b3 HC2 HT2 HK2 PN2 PC2 B2
    have q1 : 16 ≤ z := by omega
    have q2 : (16 : Int) ≤ z := by omega
    have q3 : 16 ≤ cd := by omega
    have q4 : (16 : Int) ≤ cd := by omega
    have q5 : ¬ cd = 16 := by omega
    have q6 : ¬ 16 = cd := by omega
    go_wp2_with (fail)
    go_region_with (go_at_call 46; refine (HC3.out _ (by first | exact Below.refl _ _ | exact (Below.refl _ _).drew)).mono ?_; rintro e w4 ⟨⟨v4, rfl, o4⟩, b4⟩)
    all_goals (go_wp2_with (fail))
    all_goals exact bodyPost_ret (v := .tuple #[v4, .int .i64 0]) (by simp [results, Tryd.results31, go_sem]) rfl ⟨⟨v4, by rw [E1.out], by rw [E2.out]; exact Own.less o4 S3.out⟩, B3.out.trans (b4.mono S3.out)⟩
  · rw [decide_eq_false ht] at HC2
    have e1 : openE kd bd = 10 := by rw [HE.out, if_neg ht]
    have e2 := HO.out
    rw [e1, if_neg (by decide)] at e2
    have E1 := Lib.hid e1
    have E2 := Lib.hid e2
    clear e1 e2 HE HO ht
    go_wp2_with (fail)
    refine HC2.out.mono ?_
    rintro e w3 ⟨rfl, b3⟩
    have B3 := Lib.hid (B2.out.trans (b3.mono B2.out.size))
    clear b3 HC2 HT2 HK2 PN2 PC2 B2
    go_wp2_with (fail)
    exact bodyPost_ret (v := .tuple #[.slice none 0 0, .int .i64 10]) (by simp [results, Tryd.results31, go_sem]) rfl ⟨⟨.slice none 0 0, by rw [E1.out], by rw [E2.out]; exact Own.nil_ _ _⟩, B3.out⟩
end Go.Proofs.YtdjfklllfbenjaaDoor
