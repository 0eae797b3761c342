/- The reference: Open. -/
import Derived.Test.YtdjfklllfbenjaaDoorEl
import Derived.Deep.RegionWith
import Derived.Deep.RegionHeld3
namespace Go.Proofs.YtdjfklllfbenjaaDoor
open Go.RowKit

theorem strOfNums_inj {a b : List Int} (ha : Bys8 a) (hb : Bys8 b) (h : strOfNums a = strOfNums b) : a = b := by
  have h1 : (strOfNums a).data.toList = (strOfNums b).data.toList := by rw [h]
  rw [strOfNums_data, strOfNums_data] at h1
  have hl : a.length = b.length := by simpa using congrArg List.length h1
  apply List.ext_getElem hl
  intro k h2 h3
  have h4 := congrArg (·[k]?) h1
  simp only [List.getElem?_map, List.getElem?_eq_getElem h2, List.getElem?_eq_getElem h3, Option.map_some, Option.some.injEq] at h4
  have h5 := congrArg UInt8.toNat h4
  rw [UInt8.toNat_ofNat', UInt8.toNat_ofNat'] at h5
  have ka := ha a[k] (List.getElem_mem h2)
  have kb := hb b[k] (List.getElem_mem h3)
  unfold By at ka kb
  omega
theorem wrapN {n : Nat} (h : (n : Int) < 9223372036854775808) : wrap64 (n : Int) = n := by
  have := IntKind.wrap_i64 (n : Int)
  unfold wrap64
  omega
set_option maxRecDepth 100000 in
set_option maxHeartbeats 8000000 in
theorem ropen_any (A D : Option Addr) (n0 c m cd : Nat) (kd bd : List Int) (w : World) (hkl : kd.length = n0) (hn0 : n0 ≤ 32) (hA : A = none → c = 0) (hk : PartAt w w.heap.size (.slice A n0 c) kd) (hdl : bd.length = m) (hd : PartAt w w.heap.size (.slice D m cd) bd) (hbb : Bys8 bd) :
    Calls Tryd.prog 32 #[.slice A n0 c, .slice D m cd] w fun e w' => (∃ v, e = .returned (.tuple #[v, .int .i64 (openE kd bd)]) ∧ Own w' w.heap.size v (openP kd bd)) ∧ Below w.heap.size w w' := by
  rcases Nat.lt_or_ge m 32 with g | g
  · have e1 : openE kd bd = 4 := by unfold openE; rw [if_pos (by omega)]
    have e2 : openP kd bd = [] := by unfold openP; rw [e1, if_neg (by decide)]
    rw [e1, e2]
    clear hkl hk hdl hd hbb e1 e2
    have gI : (m : Int) < 32 := by omega
    go_enter Tryd.func32, Tryd.ntmps32
    go_wp2_with (fail)
    exact bodyPost_ret (v := .tuple #[.slice none 0 0, .int .i64 4]) (by simp [results, Tryd.results32, go_sem]) rfl ⟨⟨_, rfl, Own.nil_ _ _⟩, Below.refl _ _⟩
  rcases Nat.lt_or_ge 65536 m with g5 | g5
  · have e1 : openE kd bd = 5 := by unfold openE; rw [if_neg (by omega), if_pos (by omega)]
    have e2 : openP kd bd = [] := by unfold openP; rw [e1, if_neg (by decide)]
    rw [e1, e2]
    clear hkl hk hdl hd hbb e1 e2
    have gI : ¬ (m : Int) < 32 := by omega
    have gJ : (65536 : Int) < m := by omega
    go_enter Tryd.func32, Tryd.ntmps32
    go_wp2_with (fail)
    exact bodyPost_ret (v := .tuple #[.slice none 0 0, .int .i64 5]) (by simp [results, Tryd.results32, go_sem]) rfl ⟨⟨_, rfl, Own.nil_ _ _⟩, Below.refl _ _⟩
  obtain ⟨z, hz⟩ : ∃ z, m = z + 16 := ⟨m - 16, by omega⟩
  obtain ⟨b, o, rfl, hbw, hcw⟩ := hd.cell_ (by omega)
  have hcap : m ≤ cd := by
    obtain ⟨A', c', e, hle, -⟩ := hd
    simp at e
    omega
  have PT := Lib.hid (hd.cut (i := 0) (j := z) hdl (by omega) (by omega))
  have PM := Lib.hid (hd.cut (i := z) (j := m) hdl (by omega) (by omega))
  have PN := Lib.hid (hd.cut (i := 0) (j := 16) hdl (by omega) (by omega))
  simp only [Nat.add_zero, Nat.sub_zero, List.drop_zero, Nat.add_sub_cancel_left] at PT PM PN
  rw [List.take_of_length_le (l := bd) (i := m) (by omega)] at PM
  have lT : (bd.take z).length = z := by rw [List.length_take]; omega
  have lN : (bd.take 16).length = 16 := by rw [List.length_take]; omega
  have HE : Hid (openE kd bd = if bd.drop z = tagL kd (bd.take z) then 0 else 10) := Lib.hid (by unfold openE; rw [if_neg (by omega), if_neg (by omega), hdl, show m - 16 = z by omega])
  have HO : Hid (openP kd bd = if openE kd bd = 0 then maskL kd (bd.take 16) ((bd.take z).drop 16) else []) := Lib.hid (by unfold openP; rw [hdl, show m - 16 = z by omega])
  have hiff : bd.drop z = tagL kd (bd.take z) ↔ strOfNums (bd.drop z) = strOfNums (tagL kd (bd.take z)) := ⟨fun h => by rw [h], strOfNums_inj (hbb.drop _) (tagL_by _ _)⟩
  obtain ⟨sT, hsT⟩ : ∃ s, strOfNums (tagL kd (bd.take z)) = s := ⟨_, rfl⟩
  obtain ⟨sM, hsM⟩ : ∃ s, strOfNums (bd.drop z) = s := ⟨_, rfl⟩
  have HTAG : Hid (∀ w', Below w.heap.size w w' → Calls Tryd.prog 35 #[.slice A n0 c, .slice (some ⟨b, o, none⟩) z cd] w' fun e w'' => ∃ v', e = .returned v' ∧ (convert 22 9 v').run Tryd.prog w'' = .ok (.string sT) w'' ∧ (convert 22 9 (.slice (some ⟨b, o + z, none⟩) (m - z) (cd - z))).run Tryd.prog w'' = .ok (.string sM) w'' ∧ Below w.heap.size w w'') := Lib.hid fun w' h => (rtag_any A (some ⟨b, o, none⟩) n0 c z cd kd (bd.take z) w' hkl hn0 hA (hk.later h h.size) (fun e => by cases e) (PT.out.later h h.size) lT (by omega)).mono fun e w'' hh => by
    obtain ⟨⟨g', c', e1, h1⟩, h2⟩ := hh
    have hb := h.trans (h2.mono h.size)
    exact ⟨_, e1, by rw [← hsT]; exact conv_part h1.part, by rw [← hsM]; exact conv_part (PM.out.later hb hb.size), hb⟩
  have hcm : (convert 22 9 (.slice (some ⟨b, o + z, none⟩) (m - z) (cd - z))).run Tryd.prog w.drew = .ok (.string sM) w.drew := by
    rw [← hsM]; exact conv_part (PM.out.later (Below.refl _ _).drew (Nat.le_refl _))
  have HSTR : Hid (∀ w', Below w.heap.size w w' → Calls Tryd.prog 28 #[.slice A n0 c, .slice (some ⟨b, o, none⟩) 16 cd, .int .i64 ((z - 16 : Nat) : Int)] w' fun e w'' => (∃ v, e = .returned v ∧ Own w'' w'.heap.size v (streamL kd (bd.take 16) (z - 16))) ∧ Below w'.heap.size w' w'') := Lib.hid fun w' h => rstream_any A (some ⟨b, o, none⟩) n0 c 16 cd (z - 16) kd (bd.take 16) w' hkl hn0 hA (hk.later h h.size) lN (by omega) (fun e => by cases e) (PN.out.later h h.size) (by omega)
  have HCW := Lib.hid (show b < w.heap.size ∧ ∀ k, k < m → w.cell? ⟨b, o + k, none⟩ = some (.int .u8 (at_ bd k)) from ⟨hbw, fun k hk => hcw k (by omega)⟩)
  have hRD : Below w.heap.size w w.drew := (Below.refl _ _).drew
  have HDL := Lib.hid hdl
  rw [hsM, hsT] at hiff
  clear hkl hk hd hbb lT lN hdl hsT hsM PT PM PN hbw hcw hA
  have g1 : ¬ (m : Int) < 32 := by omega
  have g2 : ¬ (65536 : Int) < (m : Int) := by omega
  have g3 : z ≤ cd := by omega
  have g4 : z ≤ m := by omega
  have hw0 : wrap64 ((m : Int) - 16) = (z : Int) := by rw [show (m : Int) - 16 = (z : Int) by omega]; exact wrapN (by omega)
  have hm16 : (m : Int) - 16 = (z : Int) := by omega
  have HMZ := Lib.hid hz
  have g9 : (z : Int) ≤ m := by omega
  have g6 : (z : Int) ≤ cd := by omega
  have g7 : ¬ cd = z := by omega
  have g8 : ¬ z = cd := by omega
  have Q3 : Hid ((z : Int) - 16 = ((z - 16 : Nat) : Int)) := Lib.hid (by omega)
  have HG := Lib.hid g
  have ZB : Hid ((z : Int) < 100000 ∧ (16 : Int) ≤ z) := Lib.hid (by omega)
  clear g g5 hz hcap
  by_cases ht : sM = sT
  · have e1 : openE kd bd = 0 := by rw [HE.out, if_pos (hiff.2 ht)]
    have e2 := HO.out
    rw [e1, if_pos rfl] at e2
    have E1 := Lib.hid e1
    obtain ⟨ml, hml⟩ : ∃ ml, maskL kd (bd.take 16) ((bd.take z).drop 16) = ml := ⟨_, rfl⟩
    obtain ⟨st, hst⟩ : ∃ st, streamL kd (bd.take 16) (z - 16) = st := ⟨_, rfl⟩
    have E2 : Hid (openP kd bd = ml) := Lib.hid (by rw [e2, hml])
    have ML : Hid (ml.length = z - 16) := Lib.hid (by rw [← hml, maskL_len, List.length_drop, List.length_take, HDL.out]; omega)
    have SL : Hid (st.length = z - 16) := Lib.hid (by rw [← hst, streamL_len])
    have HM : Hid (∀ i, i < z - 16 → ml.take i ++ [x8 (at_ bd (i + 16)) (at_ st i)] = ml.take (i + 1)) := Lib.hid fun i hi => by
      have hl : ((bd.take z).drop 16).length = z - 16 := by rw [List.length_drop, List.length_take, HDL.out]; have := HMZ.out; omega
      have h1 := xorL_take (streamL kd (bd.take 16) (z - 16)) ((bd.take z).drop 16) i (by rw [hl]; exact hi)
      have h2 : at_ ((bd.take z).drop 16) i = at_ bd (i + 16) := by unfold at_; rw [List.getElem?_drop, List.getElem?_take_of_lt (by omega), Nat.add_comm]
      rw [h2, hst] at h1
      have h3 : xorL st ((bd.take z).drop 16) = ml := by rw [← hml]; unfold maskL; rw [hl, hst]
      rw [h3] at h1
      exact h1
    rw [hst] at HSTR
    obtain ⟨zz, hzz⟩ : ∃ zz, z - 16 = zz := ⟨_, rfl⟩
    rw [hzz] at HSTR
    have HZZ : Hid ((z : Int) - 16 = (zz : Int)) := Lib.hid (by rw [Q3.out, hzz])
    have HZ2 := Lib.hid hzz
    clear hzz
    subst ht
    clear hiff hml hst e1 e2 HE HO
    have q1 : 16 ≤ cd := by have := HG.out; have := HMZ.out; omega
    have q2 : (16 : Int) ≤ cd := by omega
    go_enter Tryd.func32, Tryd.ntmps32
    go_upto_region 6 with (fail)
    go_cut [29] from 19 to 28 (fun v wx => v = .bool false ∧ Hid (Below w.heap.size w wx))
    case first =>
      go_region_with (first | (go_at_call 35; refine (HTAG.out _ hRD).mono ?_; rintro e w5 ⟨v5, rfl, hc5, hm5, h5⟩))
      all_goals (go_wp2_with (fail))
      all_goals go_meet
      all_goals exact ⟨rfl, Lib.hid h5⟩
    case rest =>
      obtain ⟨rfl, H5⟩ := hcut
      have h5 := H5.out
      have hz16 := HZZ.out
      have hw : wrap64 ((z : Int) - 16) = (zz : Int) := by rw [HZZ.out]; exact wrapN (by have := ZB.out; have := HZZ.out; omega)
      go_wp2_with (fail)
      refine (HSTR.out _ h5).mono ?_
      rintro e w6 ⟨⟨vs, rfl, o6⟩, b6⟩
      obtain ⟨As, cs, rfl, -⟩ := o6.shape
      have hsl : st.length = zz := by rw [SL.out, HZ2.out]
      rw [hsl] at o6 ⊢
      have PS := Lib.hid o6.part
      have HSL := Lib.hid hsl
      have B6 := Lib.hid (h5.trans (b6.mono h5.size))
      have O6 : Hid (Own w6 w6.heap.size (.slice none 0 0) (ml.take 0)) := Lib.hid (by rw [List.take_zero]; exact Own.nil_ _ _)
      clear o6 b6 h5 hcm hRD hsl HTAG HSTR hw hz16 hm16 hw0 g1 g2 H5
      go_wp2_with (fail)
      have G4 := Lib.hid g4
      clear g3 g4 g6 g7 g8 g9 q1 q2
      go_loopw [7, 9] (fun v i wx => ∃ k t : Nat, k ≤ zz ∧ Hid (t = k + 16) ∧ i = .int .i64 (t : Int) ∧ Hid (Own wx w6.heap.size v (ml.take k)) ∧ Hid (Below w6.heap.size w6 wx)) (fun _ i _ => z - (intOf i).toNat)
      case atStart => exact ⟨0, 16, by omega, Lib.hid rfl, rfl, O6, Lib.hid (Below.refl _ _)⟩
      case round =>
        obtain ⟨k, t, hk, htk, rfl, ho, hbl⟩ := hrel
        clear O6
        obtain ⟨A2, c2, rfl, -⟩ := ho.out.shape
        have hl1 : (ml.take k).length = k := by rw [List.length_take, ML.out, HZ2.out]; omega
        rw [hl1] at ho ⊢
        have HL1 := Lib.hid hl1
        have hsz : w6.heap.size ≤ wr.heap.size := hbl.out.size
        have HK2 := Lib.hid hk
        clear hl1 hk
        by_cases gk : k < zz
        · have hzt : t < z := by have := htk.out; have := HZ2.out; omega
          have gI : (t : Int) < z := by omega
          have gI2 : (k : Int) < zz := by omega
          have ht1 : wrap64 ((t : Int) - 16) = (k : Int) := by rw [show (t : Int) - 16 = (k : Int) by have := htk.out; omega]; exact wrapN (by have := ZB.out; have := htk.out; omega)
          have ht2 : wrap64 ((t : Int) + 1) = (t : Int) + 1 := by rw [show (t : Int) + 1 = ((t + 1 : Nat) : Int) by omega]; exact wrapN (by have := ZB.out; omega)
          obtain ⟨b2, o2, rfl, hb2, hc2⟩ := PS.out.cell_ (by rw [HSL.out]; omega)
          have e2 := kept_cell hbl.out (hc2 k (by rw [HSL.out]; exact gk)) hb2
          have htm : t < m := Nat.lt_of_lt_of_le hzt G4.out
          have hBB : Below w.heap.size w wr := B6.out.trans (hbl.out.mono B6.out.size)
          have e1 := kept_cell hBB (HCW.out.2 t htm) HCW.out.1
          have hm1 := HM.out k (by rw [HZ2.out]; exact gk)
          rw [← htk.out] at hm1
          obtain ⟨y, hy⟩ : ∃ y, x8 (at_ bd t) (at_ st k) = y := ⟨_, rfl⟩
          rw [hy] at hm1
          have HM1 := Lib.hid hm1
          have hx : bits .xor .u8 (at_ bd t) (at_ st k) = y := hy
          generalize at_ bd t = u1 at *
          generalize at_ st k = u2 at *
          have HC0 : Hid (∀ w', Below w6.heap.size wr w' → w'.cell? ⟨b, o + t, none⟩ = some (.int .u8 u1) ∧ w'.cell? ⟨b2, o2 + k, none⟩ = some (.int .u8 u2)) := Lib.hid fun w' h => ⟨kept_cell h e1 (Nat.lt_of_lt_of_le HCW.out.1 B6.out.size), kept_cell h e2 hb2⟩
          have gz : (t : Int) < (m : Int) := by omega
          have ht3 : IntKind.i64.wrap ((t : Int) - 16) = (k : Int) := by have h := ht1; unfold wrap64 at h; rw [IntKind.wrap_i64]; exact h
          clear hzt htm gk
          clear hy hm1 hc2 hBB
          go_wp2_with (fail)
          go_region_held3 (fun w' => w'.cell? ⟨b, o + t, none⟩ = some (.int .u8 u1) ∧ w'.cell? ⟨b2, o2 + k, none⟩ = some (.int .u8 u2)) (first | exact ⟨e1, e2⟩ | exact HC0.out _ (Below.refl _ _).drew | exact HC0.out _ ((Below.refl _ _).alloc hsz _).drew | exact HC0.out _ h2)
            (first | (refine stepB4 rfl _ _ _ rfl Tryd.underlying22 rfl (by first | exact (ho.out.keep (fun g hg => Below.heap_alloc wr _ g hg))) (W := wr) (by first | exact ((Below.refl w6.heap.size wr).alloc hsz _).drew) (by simp; omega) wr.heap.size [y] 1 rfl rfl (one_cell wr y) (by rw [HL1.out]; have := ZB.out; have := HZZ.out; clear ht1 ht2 ht3; omega) ?_; intro v9 w9 h1 h2))
          have HO9 : Hid (Own w9 w6.heap.size v9 (ml.take (k + 1))) := Lib.hid (by rw [← HM1.out]; exact h1)
          have HB9 := Lib.hid (hbl.out.trans h2)
          clear h1 h2 ho hbl e1 e2 HC0 hsz hx
          go_wp2_with (fail)
          go_roundw
          case rel => exact ⟨k + 1, t + 1, by clear ht1 ht2 ht3; omega, Lib.hid (by rw [htk.out]), by rw [ht2]; clear ht1 ht2 ht3; go_num, HO9, HB9⟩
          case measure => rw [ht2]; clear ht1 ht2 ht3; simp [intOf]; omega
        · have gI : ¬ (t : Int) < z := by have := HG.out; have := HMZ.out; have := HZ2.out; have := htk.out; omega
          have HF : Hid (Own wr w6.heap.size (.slice A2 k c2) (openP kd bd)) := Lib.hid (by rw [E2.out, ← List.take_of_length_le (l := ml) (i := k) (by rw [ML.out, HZ2.out]; omega)]; exact ho.out)
          have HBF := Lib.hid (B6.out.trans (hbl.out.mono B6.out.size))
          have HSF := Lib.hid B6.out.size
          clear ho hbl hsz
          go_wp2_with (fail)
          exact bodyPost_ret (v := .tuple #[.slice A2 k c2, .int .i64 0]) (by simp [results, Tryd.results32, go_sem]) rfl ⟨⟨_, by rw [E1.out], Own.less HF.out HSF.out⟩, HBF.out⟩
  · have e1 : openE kd bd = 10 := by rw [HE.out, if_neg (fun h => ht (hiff.1 h))]
    have e2 := HO.out
    rw [e1, if_neg (by decide)] at e2
    have E1 := Lib.hid e1
    have E2 := Lib.hid e2
    have hne : sT.toList ≠ sM.toList := by
      rw [ByteArray.toList_eq, ByteArray.toList_eq]
      intro h
      apply ht
      obtain ⟨⟨a⟩⟩ := sT
      obtain ⟨⟨a'⟩⟩ := sM
      have : a = a' := h
      rw [this]
    have hnb : (sT.toList == sM.toList) = false := by rw [beq_eq_false_iff_ne]; exact hne
    clear e1 e2 HE HO hiff HSTR
    go_enter Tryd.func32, Tryd.ntmps32
    go_upto_region 6 with (fail)
    go_region_with (first | (go_at_call 35; refine (HTAG.out _ hRD).mono ?_; rintro e w5 ⟨v5, rfl, hc5, hm5, h5⟩))
    all_goals (go_wp2_with (fail))
    all_goals exact bodyPost_ret (v := .tuple #[.slice none 0 0, .int .i64 10]) (by simp [results, Tryd.results32, go_sem]) rfl ⟨⟨.slice none 0 0, by rw [E1.out], by rw [E2.out]; exact Own.nil_ _ _⟩, h5⟩
end Go.Proofs.YtdjfklllfbenjaaDoor
