/- The law WireAgain. -/
import Derived.Test.YtocdjieaphkbdaaWx2
import Derived.Test.YtocdjieaphkbdaaWv
import Derived.Deep.RegionWith
import Derived.Deep.CutRange
namespace Go.Proofs.Ytocdjieaphkbdaa
open Go.RowKit

set_option maxRecDepth 100000 in
set_option maxHeartbeats 8000000 in
theorem again_any {A : Option Addr} {n c : Nat} {vl : Nat → WV} (w : World) (hx : ValsAt w (fun _ => True) A n vl) :
    Calls Try.prog 7 #[.slice A n c] w fun e w' => e = .returned (.bool true) ∧ Ch No w w' := by
  have HX := Lib.hid (hx.mono (P' := fun i => i < w.heap.size) fun i hi _ => hi)
  have HLg := Lib.hid (large_any (c := c) hx)
  clear hx
  go_enter Try.func7, Try.ntmps7
  go_wp2_with (fail)
  refine HLg.out.mono ?_
  rintro r w1 ⟨⟨lg, rfl, hs⟩, hw⟩
  rw [hw]
  clear hw HLg w1
  cases lg with
  | true =>
    clear hs
    go_wp2_with (fail)
    refine (known_any w).mono ?_
    rintro r w2 ⟨rfl, k2⟩
    go_wp2_with (fail)
    go_ret
    exact ⟨rfl, k2⟩
  | false =>
    have HS := Lib.hid (hs rfl)
    have hn20 : n ≤ 20 := (hs rfl).1
    clear hs
    obtain ⟨p, hp⟩ : ∃ p, w.heap.size = p := ⟨_, rfl⟩
    have HP := Lib.hid hp
    have HW : Hid (WrAt (w.alloc (.cells #[.int .i64 0, .slice none 0 0] 30)) p (.slice none 0 0) ⟨0, encs vl 0⟩) := Lib.hid (by rw [← hp]; exact WrAt.new w)
    have K0 := Lib.hid (Ch.new w (.cells #[.int .i64 0, .slice none 0 0] 30))
    have HEL : Hid (∀ i, i < n → (vl i).enc.length ≤ 510 ∧ Bys8 (vl i).enc) := Lib.hid fun i hi => by
      obtain ⟨b, o, -, -, h⟩ := HX.out i hi
      exact ⟨WV.enc_len h.nb h.lb (HS.out.2 i hi).1 (HS.out.2 i hi).2, WV.enc_by h.tb⟩
    go_wp2_with (fail)
    go_loopw [4] (fun i wx => ∃ (k : Nat) (v : Value), i = .int .i64 k ∧ k ≤ n ∧ Hid (WrAt wx p v ⟨0, encs vl k⟩) ∧ Hid (Ch No w wx) ∧ Hid (∀ j, j < k → ¬ (vl j).bad)) (fun i _ => n - (intOf i).toNat)
    case atStart => exact ⟨0, _, rfl, Nat.zero_le _, HW, K0, Lib.hid fun j hj => by omega⟩
    case round =>
      obtain ⟨k, v, rfl, hk, hwr, hc, hbad⟩ := hrel
      clear HW K0
      by_cases g : k < n
      · have gK : (k : Int) < n := by omega
        obtain ⟨b, o, rfl, hbl, hv0⟩ := HX.out k g
        have hv := hv0.ch hc.out (fun h => h) fun _ _ _ h => h
        have e4 : o + 4 * k = o + k * 4 := by omega
        rw [e4] at hv
        have c0 := hv.c0
        have c1 := hv.c1
        have c2 := hv.c2
        have c3 := hv.c3
        obtain ⟨z, hz⟩ : ∃ z : Nat, (vl k).kind % 6 = z := ⟨_, rfl⟩
        have hzi : ((vl k).kind : Int) % 6 = (z : Int) := by omega
        have hk256 : ((vl k).kind : Int) < 256 := by have := hv.kb; omega
        have HV := Lib.hid hv
        have HC := hc
        have HB := hbad
        have HWR := hwr
        have HZ := Lib.hid hz
        clear hv hc hbad hwr hv0 hbl e4 hz
        by_cases gb : (vl k).bad
        · have q1 : z = 0 := by have := gb.1; have := HZ.out; omega
          have q2 : (vl k).num < 0 := gb.2
          subst q1
          clear gb
          go_wp2_with (fail)
          refine (known_any wr).mono ?_
          rintro r w2 ⟨rfl, k2⟩
          go_wp2_with (fail)
          go_ret
          exact ⟨rfl, HC.out.then k2⟩
        · have HWt := Lib.hid (write_any (y := vl k) HWR.out rfl HV.out.t HV.out.l HV.out.kb HV.out.nb HV.out.tb HV.out.lb (fun i hi h => ⟨by have := HP.out; omega, fun e => by have := ((HWR.out.2 rfl).1.lt e).1; have := HP.out; omega⟩))
          have HE : Hid (wVal ⟨0, encs vl k⟩ (vl k) = ⟨0, encs vl (k + 1)⟩) := Lib.hid (by
            unfold wVal
            rw [if_neg fun h => gb h.2]
            have h1 := encs_len (fun i hi => (HEL.out i hi).1) k (by omega)
            have h2 := (HEL.out k g).1
            rw [wr_ok (by omega), encs_succ])
          rw [HE.out] at HWt
          have HB2 : Hid (∀ j, j < k + 1 → ¬ (vl j).bad) := Lib.hid fun j hj => by
            rcases (by omega : j < k ∨ j = k) with h | rfl
            · exact HB.out j h
            · exact gb
          have HGB := Lib.hid gb
          clear gb HB HE
          rcases Nat.eq_zero_or_pos z with hz0 | hz0
          · have q1 : ¬ (vl k).num < 0 := fun h => HGB.out ⟨by have := HZ.out; omega, h⟩
            subst hz0
            go_wp2_with (fail)
            refine HWt.out.mono ?_
            rintro r w2 ⟨rfl, v2, h2, k2, -⟩
            have K2 := Lib.hid (HWR.out.over k2 HC.out (Nat.le_of_eq HP.out))
            have H2 := Lib.hid h2
            clear h2 k2 HWR HC HWt HV
            go_wp2_with (fail)
            go_roundw
            case rel => exact ⟨k + 1, v2, by go_num, by omega, H2, K2, HB2⟩
            case measure => simp [intOf]; omega
          · have q1 : ((z : Int) == 0) = false := by simp; omega
            have HZ0 := Lib.hid hz0
            clear hz0
            go_wp2_with (fail)
            refine HWt.out.mono ?_
            rintro r w2 ⟨rfl, v2, h2, k2, -⟩
            have K2 := Lib.hid (HWR.out.over k2 HC.out (Nat.le_of_eq HP.out))
            have H2 := Lib.hid h2
            clear h2 k2 HWR HC HWt HV
            go_wp2_with (fail)
            go_roundw
            case rel => exact ⟨k + 1, v2, by go_num, by omega, H2, K2, HB2⟩
            case measure => simp [intOf]; omega
      · obtain rfl : k = n := by omega
        have HEn := Lib.hid (end_any hwr.out)
        have HC := hc
        have HB := hbad
        clear hwr hc hbad
        go_wp2_with (fail)
        refine HEn.out.mono ?_
        rintro r w2 ⟨vb, rfl, o2, k2⟩
        rw [outW_0] at o2
        have O2 := Lib.hid o2
        have K2 := Lib.hid (HC.out.then k2)
        clear o2 k2 HC HEn
        obtain ⟨N, hN⟩ : ∃ N, (encs vl k).length = N := ⟨_, rfl⟩
        have HNL : Hid ((encs vl k).length = N ∧ N < 1000000) := Lib.hid ⟨hN, by have := encs_len (fun i hi => (HEL.out i hi).1) k (Nat.le_refl _); omega⟩
        obtain ⟨Ab, cb, rfl⟩ := O2.out.len hN
        clear hN
        go_wp2_with (fail)
        refine (read_any O2.out.rw_ (by rw [HNL.out.1]; exact HNL.out.2) (encs_by (fun i hi => (HEL.out i hi).2) k (Nat.le_refl _))).mono ?_
        rintro r w3 ⟨q, Aq, cq, rfl, hq, hr, k3, -⟩
        have HQ : Hid (w.heap.size ≤ q) := Lib.hid (by have := K2.out.size; omega)
        have K3 := Lib.hid (K2.out.then k3)
        have R3 : Hid (RdAt w3 q Aq (encs vl k).length cq (encs vl k) 0 (encs vl 0).length) := Lib.hid hr
        clear hq hr k3 K2 O2
        go_wp2_with (fail)
        go_loopw [8] (fun i wx => ∃ j : Nat, i = .int .i64 j ∧ j ≤ k ∧ Hid (RdAt wx q Aq (encs vl k).length cq (encs vl k) 0 (encs vl j).length) ∧ Hid (Ch No w wx)) (fun i _ => k - (intOf i).toNat)
        case atStart => exact ⟨0, rfl, Nat.zero_le _, R3, K3⟩
        case round =>
          obtain ⟨j, rfl, hj, hrd, hc⟩ := hrel
          clear R3 K3
          by_cases g2 : j < k
          · have gJ : (j : Int) < k := by omega
            obtain ⟨b, o, rfl, hbl, hv0⟩ := HX.out j g2
            have hv := hv0.ch hc.out (fun h => h) fun _ _ _ h => h
            have e4 : o + 4 * j = o + j * 4 := by omega
            rw [e4] at hv
            have c0 := hv.c0
            have c1 := hv.c1
            have c2 := hv.c2
            have c3 := hv.c3
            obtain ⟨tA, tc, et, -⟩ := hv.t.shape
            obtain ⟨lA, lc, el, -⟩ := hv.l.shape
            rw [et] at c2
            rw [el] at c3
            have HV := Lib.hid hv
            have HC := hc
            have HRD := hrd
            have ET := Lib.hid et
            have EL := Lib.hid el
            obtain ⟨tl, htl⟩ : ∃ l, (vl j).text.length = l := ⟨_, rfl⟩
            obtain ⟨ll, hll⟩ : ∃ l, (vl j).list.length = l := ⟨_, rfl⟩
            rw [htl] at c2 ET
            rw [hll] at c3 EL
            clear hv hc hrd hv0 hbl e4 et el htl hll
            go_upto_region 19 with (fail)
            obtain ⟨s, hs⟩ : ∃ s, wr.heap.size = s := ⟨_, rfl⟩
            obtain ⟨f0, f1, f2, f3⟩ := four wr (.int .u8 (vl j).kind) (.int .i64 (vl j).num) (.slice tA tl tc) (.slice lA ll lc) 35
            have kn := Ch.new wr (.cells #[.int .u8 (vl j).kind, .int .i64 (vl j).num, .slice tA tl tc, .slice lA ll lc] 35)
            have RD1 := Lib.hid (HRD.out.no kn)
            have K1 := Lib.hid (HC.out.then kn)
            have TR := Lib.hid (HV.out.t.ch kn fun _ _ _ h => h)
            have LR := Lib.hid (HV.out.l.ch kn fun _ _ _ h => h)
            have NF := Lib.hid (show (-9223372036854775808 ≤ (vl j).num ∧ (vl j).num ≤ 9223372036854775807) ∧ Bys8 (vl j).text ∧ I64s (vl j).list ∧ (vl j).kind < 256 from ⟨HV.out.nb, HV.out.tb, HV.out.lb, HV.out.kb⟩)
            have HQS : Hid (q < s) := Lib.hid (by rw [← hs]; exact HRD.out.lt)
            have HS1 : Hid ((wr.alloc (.cells #[.int .u8 (vl j).kind, .int .i64 (vl j).num, .slice tA tl tc, .slice lA ll lc] 35)).heap.size = s + 1) := Lib.hid (by simp [hs])
            rw [ET.out] at TR
            rw [EL.out] at LR
            rw [hs] at f0 f1 f2 f3 ⊢
            generalize wr.alloc (.cells #[.int .u8 (vl j).kind, .int .i64 (vl j).num, .slice tA tl tc, .slice lA ll lc] 35) = W1 at *
            clear kn hs c0 c1 c2 c3 HV HRD HC
            obtain ⟨rr, hrr⟩ := encs_drop vl g2
            have HDR := Lib.hid hrr
            have HSM := Lib.hid (HS.out.2 j g2)
            have HNB := Lib.hid (HB.out j g2)
            have HEN : Hid ((encs vl j).length + (vl j).enc.length = (encs vl (j + 1)).length) := Lib.hid (by rw [encs_succ, List.length_append])
            clear hrr
            obtain ⟨z, hz⟩ : ∃ z : Nat, (vl j).kind % 6 = z := ⟨_, rfl⟩
            have hzi : ((vl j).kind : Int) % 6 = (z : Int) := by omega
            have hk256 : ((vl j).kind : Int) < 256 := by have := NF.out.2.2.2; omega
            have HZ := Lib.hid hz
            have hz6 : z < 6 := by omega
            clear hz
            rcases (by omega : z = 0 ∨ z = 1 ∨ z = 2 ∨ z = 3 ∨ z = 4 ∨ z = 5) with rfl | rfl | rfl | rfl | rfl | rfl
            · have hge : 0 ≤ (vl j).num := by
                have := HNB.out
                unfold WV.bad at this
                have hz := HZ.out
                omega
              have HE : Hid ((vl j).enc = grp (vl j).num.toNat) := Lib.hid (by unfold WV.enc; rw [if_pos HZ.out])
              have HG := Lib.hid hge
              clear hge
              have HCc : Hid (∀ W, Ch No W1 W → Calls Try.prog 22 #[.pointer (some ⟨q, 0, none⟩)] W fun r W' => r = .returned (.int .i64 (vl j).num) ∧ W'.cell? ⟨s, 1, none⟩ = some (.int .i64 (vl j).num) ∧ RdAt W' q Aq (encs vl k).length cq (encs vl k) 0 (encs vl (j + 1)).length ∧ Ch No w W') := Lib.hid fun W kk => by
                have HH := ruint_ok (RD1.out.no kk)
                rw [HDR.out, show rUint ((vl j).enc ++ rr) = .good (vl j).num.toNat (vl j).enc.length from by rw [HE.out]; exact rUint_grp (by have := NF.out.1.2; have := HG.out; omega) rr] at HH
                refine HH.mono ?_
                rintro r W' ⟨k', ⟨x, rfl, hx⟩, h'⟩
                rw [HEN.out] at h'
                have k2 : Ch (fun i => i = q) W1 W' := kk.after k'
                exact ⟨by rw [show x = .int .i64 ((vl j).num.toNat : Int) from hx, Int.toNat_of_nonneg HG.out], k2.cell f1 (fun e => by have := HQS.out; omega), h', K1.out.trans k2 fun i _ e => by have := HQ.out; omega⟩
              have hrd : Ch No W1 W1.drew := (Ch.refl _ _).drew
              generalize (vl j).num = num at *
              go_upto_region 22 with (fail)
              go_region_with (first | (go_at_call 22; refine (HCc.out _ hrd).mono ?_; rintro r W2 ⟨rfl, d1, rw2, kw2⟩))
              all_goals
                go_wp2_with (fail)
                go_roundw
                case rel => exact ⟨j + 1, by go_num, by omega, Lib.hid rw2, Lib.hid kw2⟩
                case measure => simp [intOf]; omega
            · have HE : Hid ((vl j).enc = grp (fold (vl j).num)) := Lib.hid (by have := HZ.out; unfold WV.enc; rw [if_neg (by omega), if_pos this])
              have HCc : Hid (∀ W, Ch No W1 W → Calls Try.prog 23 #[.pointer (some ⟨q, 0, none⟩)] W fun r W' => r = .returned (.int .i64 (vl j).num) ∧ W'.cell? ⟨s, 1, none⟩ = some (.int .i64 (vl j).num) ∧ RdAt W' q Aq (encs vl k).length cq (encs vl k) 0 (encs vl (j + 1)).length ∧ Ch No w W') := Lib.hid fun W kk => by
                have HH := rint_ok (RD1.out.no kk)
                rw [HDR.out, show rInt ((vl j).enc ++ rr) = .good (vl j).num (vl j).enc.length from by rw [HE.out]; exact rInt_grp NF.out.1.1 NF.out.1.2 rr] at HH
                refine HH.mono ?_
                rintro r W' ⟨k', ⟨x, rfl, hx⟩, h'⟩
                rw [HEN.out] at h'
                have k2 : Ch (fun i => i = q) W1 W' := kk.after k'
                exact ⟨by rw [show x = .int .i64 (vl j).num from hx], k2.cell f1 (fun e => by have := HQS.out; omega), h', K1.out.trans k2 fun i _ e => by have := HQ.out; omega⟩
              have hrd : Ch No W1 W1.drew := (Ch.refl _ _).drew
              generalize (vl j).num = num at *
              go_upto_region 24 with (fail)
              go_region_with (first | (go_at_call 23; refine (HCc.out _ hrd).mono ?_; rintro r W2 ⟨rfl, d1, rw2, kw2⟩))
              all_goals
                go_wp2_with (fail)
                go_roundw
                case rel => exact ⟨j + 1, by go_num, by omega, Lib.hid rw2, Lib.hid kw2⟩
                case measure => simp [intOf]; omega
            · have HE : Hid ((vl j).enc = [if (vl j).num = 0 then 0 else 1]) := Lib.hid (by have := HZ.out; unfold WV.enc; rw [if_neg (by omega), if_neg (by omega), if_pos this])
              have HCc : Hid (∀ W, Ch No W1 W → Calls Try.prog 24 #[.pointer (some ⟨q, 0, none⟩)] W fun r W' => r = .returned (.bool ((vl j).num != 0)) ∧ W'.cell? ⟨s, 1, none⟩ = some (.int .i64 (vl j).num) ∧ RdAt W' q Aq (encs vl k).length cq (encs vl k) 0 (encs vl (j + 1)).length ∧ Ch No w W') := Lib.hid fun W kk => by
                have HH := rbool_ok (RD1.out.no kk)
                rw [HDR.out, show rBool ((vl j).enc ++ rr) = .good ((vl j).num != 0) (vl j).enc.length from by rw [HE.out]; by_cases hz : (vl j).num = 0 <;> simp [rBool, hz]] at HH
                refine HH.mono ?_
                rintro r W' ⟨k', ⟨x, rfl, hx⟩, h'⟩
                rw [HEN.out] at h'
                have k2 : Ch (fun i => i = q) W1 W' := kk.after k'
                exact ⟨by rw [show x = .bool ((vl j).num != 0) from hx], k2.cell f1 (fun e => by have := HQS.out; omega), h', K1.out.trans k2 fun i _ e => by have := HQ.out; omega⟩
              have hrd : Ch No W1 W1.drew := (Ch.refl _ _).drew
              generalize (vl j).num = num at *
              go_upto_region 26 with (fail)
              go_region_with (first | (go_at_call 24; refine (HCc.out _ hrd).mono ?_; rintro r W2 ⟨rfl, d1, rw2, kw2⟩))
              all_goals
                go_wp2_with (fail)
                go_roundw
                case rel => exact ⟨j + 1, by go_num, by omega, Lib.hid rw2, Lib.hid kw2⟩
                case measure => simp [intOf]; omega
            · have HE : Hid ((vl j).enc = grp (vl j).text.length ++ (vl j).text) := Lib.hid (by have := HZ.out; unfold WV.enc; rw [if_neg (by omega), if_neg (by omega), if_neg (by omega), if_pos (.inl this)])
              obtain ⟨sT, hsT⟩ : ∃ s, strOfNums (vl j).text = s := ⟨_, rfl⟩
              have HCc : Hid (∀ W, Ch No W1 W → Calls Try.prog 26 #[.pointer (some ⟨q, 0, none⟩), .int .i64 200] W fun r W' => (∃ x, r = .returned x ∧ (convert 28 9 x).run Try.prog W' = .ok (.string sT) W') ∧ W'.cell? ⟨s, 2, none⟩ = some (.slice tA tl tc) ∧ (convert 28 9 (.slice tA tl tc)).run Try.prog W' = .ok (.string sT) W' ∧ RdAt W' q Aq (encs vl k).length cq (encs vl k) 0 (encs vl (j + 1)).length ∧ Ch No w W') := Lib.hid fun W kk => by
                have HH := rbytes_ok (lim := 200) (RD1.out.no kk)
                rw [HDR.out, show rText ((vl j).enc ++ rr) 200 = .good (vl j).text (vl j).enc.length from by rw [HE.out]; exact rText_enc (by have := HSM.out.1; omega) (by have := HSM.out.1; omega)] at HH
                refine HH.mono ?_
                rintro r W' ⟨k', ⟨x, rfl, hx⟩, h'⟩
                rw [HEN.out] at h'
                have k2 : Ch (fun i => i = q) W1 W' := kk.after k'
                exact ⟨⟨x, rfl, by rw [← hsT]; exact conv_rw (show Ow 5 .u8 W' (W.heap.size + 1) x (vl j).text from hx).rw_⟩, k2.cell f2 (fun e => by have := HQS.out; omega), by rw [← hsT]; exact conv_rw (TR.out.ch k2 fun i _ h e => by have := HQ.out; omega), h', K1.out.trans k2 fun i _ e => by have := HQ.out; omega⟩
              clear hsT
              go_wp2_with (fail)
              refine (HCc.out _ (Ch.refl _ _)).mono ?_
              rintro r W2 ⟨⟨x, rfl, hcx⟩, d2, hct, rw2, kw2⟩
              have RW2 := Lib.hid rw2
              have KW2 := Lib.hid kw2
              clear rw2 kw2 HCc
              go_wp2_with (fail)
              go_roundw
              case rel => exact ⟨j + 1, by go_num, by omega, RW2, KW2⟩
              case measure => simp [intOf]; omega
            · have HE : Hid ((vl j).enc = grp (vl j).text.length ++ (vl j).text) := Lib.hid (by have := HZ.out; unfold WV.enc; rw [if_neg (by omega), if_neg (by omega), if_neg (by omega), if_pos (.inr this)])
              obtain ⟨sT, hsT⟩ : ∃ s, strOfNums (vl j).text = s := ⟨_, rfl⟩
              have hct0 : (convert 28 9 (.slice tA tl tc)).run Try.prog W1.drew = .ok (.string sT) W1.drew := by rw [← hsT]; exact conv_rw TR.out.drew
              have HCc : Hid (∀ W, Ch No W1 W → Calls Try.prog 27 #[.pointer (some ⟨q, 0, none⟩), .int .i64 200] W fun r W' => r = .returned (.string sT) ∧ W'.cell? ⟨s, 2, none⟩ = some (.slice tA tl tc) ∧ (convert 28 9 (.slice tA tl tc)).run Try.prog W' = .ok (.string sT) W' ∧ RdAt W' q Aq (encs vl k).length cq (encs vl k) 0 (encs vl (j + 1)).length ∧ Ch No w W') := Lib.hid fun W kk => by
                have HH := rstring_ok (lim := 200) (RD1.out.no kk)
                rw [HDR.out, show rText ((vl j).enc ++ rr) 200 = .good (vl j).text (vl j).enc.length from by rw [HE.out]; exact rText_enc (by have := HSM.out.1; omega) (by have := HSM.out.1; omega)] at HH
                refine HH.mono ?_
                rintro r W' ⟨k', ⟨x, rfl, hx⟩, h'⟩
                rw [HEN.out] at h'
                have k2 : Ch (fun i => i = q) W1 W' := kk.after k'
                exact ⟨by rw [show x = .string (strOfNums (vl j).text) from hx, hsT], k2.cell f2 (fun e => by have := HQS.out; omega), by rw [← hsT]; exact conv_rw (TR.out.ch k2 fun i _ h e => by have := HQ.out; omega), h', K1.out.trans k2 fun i _ e => by have := HQ.out; omega⟩
              have hrd : Ch No W1 W1.drew := (Ch.refl _ _).drew
              clear hsT
              go_upto_region 31 with (fail)
              go_region_with (first | (go_at_call 27; refine (HCc.out _ hrd).mono ?_; rintro r W2 ⟨rfl, d2, hct, rw2, kw2⟩))
              all_goals
                go_wp2_with (fail)
                go_roundw
                case rel => exact ⟨j + 1, by go_num, by omega, Lib.hid rw2, Lib.hid kw2⟩
                case measure => simp [intOf]; omega
            · have HE : Hid ((vl j).enc = grp (vl j).list.length ++ intsL (vl j).list) := Lib.hid (by have := HZ.out; unfold WV.enc; rw [if_neg (by omega), if_neg (by omega), if_neg (by omega), if_neg (by omega)])
              have HCc : Hid (∀ W, Ch No W1 W → Calls Try.prog 29 #[.pointer (some ⟨q, 0, none⟩), .int .i64 50] W fun r W' => (∃ x, r = .returned x ∧ Hid (Calls Try.prog 28 #[x, .slice lA ll lc] W' fun e w' => e = .returned (.bool true) ∧ Ch No W' w')) ∧ W'.cell? ⟨s, 3, none⟩ = some (.slice lA ll lc) ∧ RdAt W' q Aq (encs vl k).length cq (encs vl k) 0 (encs vl (j + 1)).length ∧ Ch No w W') := Lib.hid fun W kk => by
                have HH := rints_ok (lim := 50) (RD1.out.no kk)
                rw [HDR.out, show rList ((vl j).enc ++ rr) 50 = .good (vl j).list (vl j).enc.length from by rw [HE.out]; exact rList_enc NF.out.2.2.1 (by have := HSM.out.2; omega) (by have := HSM.out.2; omega)] at HH
                refine HH.mono ?_
                rintro r W' ⟨k', ⟨x, rfl, hx⟩, h'⟩
                rw [HEN.out] at h'
                have k2 : Ch (fun i => i = q) W1 W' := kk.after k'
                exact ⟨⟨x, rfl, Lib.hid (equal_any (show Ow 3 .i64 W' (W.heap.size + 1) x (vl j).list from hx).rw_ (LR.out.ch k2 fun i _ h e => by have := HQ.out; omega) (by have := HSM.out.2; omega))⟩, k2.cell f3 (fun e => by have := HQS.out; omega), h', K1.out.trans k2 fun i _ e => by have := HQ.out; omega⟩
              have hrd : Ch No W1 W1.drew := (Ch.refl _ _).drew
              go_upto_region 20 with (fail)
              go_region_with (first | (go_at_call 29; refine (HCc.out _ hrd).mono ?_; rintro r W2 ⟨⟨x, rfl, he2⟩, d3, rw2, kw2⟩) | (go_at_call 28; refine he2.out.mono ?_; rintro r W3 ⟨rfl, kw3⟩))
              all_goals
                go_wp2_with (fail)
                go_roundw
                case rel => exact ⟨j + 1, by go_num, by omega, Lib.hid (rw2.no kw3), Lib.hid (kw2.then kw3)⟩
                case measure => simp [intOf]; omega
          · obtain rfl : j = k := by omega
            have HRE := rend_ok hrd.out
            rw [HNL.out.1, show endE 0 N N = 0 by unfold endE; rw [if_pos rfl, if_neg (by omega)]] at HRE
            have HA := at_ok hrd.out
            rw [HNL.out.1] at HA
            have HRE := Lib.hid HRE
            have HRA : Hid (∀ W, Ch No wr W → Calls Try.prog 31 #[.pointer (some ⟨q, 0, none⟩)] W fun r W' => r = .returned (.int .i64 N) ∧ W' = W) := Lib.hid fun W kk => by
              have := at_ok (hrd.out.no kk)
              rwa [HNL.out.1] at this
            have HC := hc
            clear hrd hc HA
            go_wp2_with (fail)
            refine HRE.out.mono ?_
            rintro r w5 ⟨rfl, k5⟩
            have K5 := Lib.hid k5
            clear k5
            go_wp2_with (fail)
            refine (HRA.out _ K5.out).mono ?_
            rintro r w6 ⟨rfl, hw⟩
            rw [hw]
            clear hw
            go_wp2_with (fail)
            refine (known_any w5).mono ?_
            rintro r w7 ⟨rfl, k7⟩
            go_wp2_with (fail)
            go_ret
            exact ⟨rfl, (HC.out.then K5.out).then k7⟩
end Go.Proofs.Ytocdjieaphkbdaa
