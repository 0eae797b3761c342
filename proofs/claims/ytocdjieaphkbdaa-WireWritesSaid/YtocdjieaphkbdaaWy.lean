/- The law WireWrites. -/
import Derived.Test.YtocdjieaphkbdaaWy0
namespace Go.Proofs.Ytocdjieaphkbdaa
open Go.RowKit

set_option maxRecDepth 100000 in
set_option maxHeartbeats 8000000 in
theorem writes_any {A : Option Addr} {n c : Nat} {vl : Nat → WV} (w : World) (hx : ValsAt w (fun _ => True) A n vl) :
    Calls Try.prog 3 #[.slice A n c] w fun e w' => e = .returned (.bool true) ∧ Ch No w w' := by
  have HX := Lib.hid (hx.mono (P' := fun i => i < w.heap.size) fun i hi _ => hi)
  have HLg := Lib.hid (large_any (c := c) hx)
  clear hx
  go_enter Try.func3, Try.ntmps3
  go_wp2_with (fail)
  refine HLg.out.mono ?_
  rintro r w1 ⟨⟨lg, rfl, hs⟩, hw⟩
  rw [hw]
  clear hw HLg w1
  cases lg with
  | true =>
    clear hs
    go_wp2_with (fail)
    refine (known_any w).mono ?_
    rintro r w2 ⟨rfl, k2⟩
    go_wp2_with (fail)
    go_ret
    exact ⟨rfl, k2⟩
  | false =>
    have HS := Lib.hid (hs rfl)
    have hn20 : n ≤ 20 := (hs rfl).1
    clear hs
    obtain ⟨p, hp⟩ : ∃ p, w.heap.size = p := ⟨_, rfl⟩
    have HP := Lib.hid hp
    have HW : Hid (WrAt (w.alloc (.cells #[.int .i64 0, .slice none 0 0] 30)) p (.slice none 0 0) ⟨0, encs vl 0⟩) := Lib.hid (by rw [← hp]; exact WrAt.new w)
    have K0 := Lib.hid (Ch.new w (.cells #[.int .i64 0, .slice none 0 0] 30))
    have HEL : Hid (∀ i, i < n → (vl i).enc.length ≤ 510 ∧ Bys8 (vl i).enc) := Lib.hid fun i hi => by
      obtain ⟨b, o, -, -, h⟩ := HX.out i hi
      exact ⟨WV.enc_len h.nb h.lb (HS.out.2 i hi).1 (HS.out.2 i hi).2, WV.enc_by h.tb⟩
    go_wp2_with (fail)
    go_loopw [4, 5, 6] (fun u bad i wx => ∃ (k : Nat) (v : Value) (es : List Int) (x : Wst), i = .int .i64 k ∧ k ≤ n ∧ Hid (WrAt wx p v x) ∧ Hid (Ch No w wx) ∧ Hid (Ow 5 .u8 wx (p + 1) u es ∧ es.length ≤ 510 * k) ∧
      ((bad = .bool false ∧ Hid (x = ⟨0, encs vl k⟩ ∧ es = encs vl k ∧ ∀ b, u.ownBlock = some b → v.ownBlock ≠ some b)) ∨ (bad = .bool true ∧ Hid (x.er = 2)))) (fun _ _ i _ => n - (intOf i).toNat)
    case atStart => exact ⟨0, _, [], _, rfl, Nat.zero_le _, HW, K0, Lib.hid ⟨Ow.nil_, by simp⟩, .inl ⟨rfl, Lib.hid ⟨rfl, rfl, fun b e => by cases e⟩⟩⟩
    case round =>
      obtain ⟨k, v, es, x, rfl, hk, hwr, hc, ho, hst⟩ := hrel
      clear HW K0
      by_cases g : k < n
      · have gK : (k : Int) < n := by omega
        obtain ⟨b, o, rfl, hbl, hv0⟩ := HX.out k g
        have hv := hv0.ch hc.out (fun h => h) fun _ _ _ h => h
        have e4 : o + 4 * k = o + k * 4 := by omega
        rw [e4] at hv
        have c0 := hv.c0
        have c1 := hv.c1
        have c2 := hv.c2
        have c3 := hv.c3
        have HV := Lib.hid hv
        have HBL := Lib.hid hbl
        have HC := hc
        have HWR := hwr
        have HO := ho
        have HSM := Lib.hid (HS.out.2 k g)
        clear hv hc hwr hv0 hbl e4 ho
        rcases hst with ⟨rfl, hst⟩ | ⟨rfl, hst⟩
        · obtain ⟨hx0, he0, hap⟩ := hst.out
          subst hx0 he0
          have HAP := Lib.hid hap
          have HWt := Lib.hid (write_any (y := vl k) HWR.out rfl HV.out.t HV.out.l HV.out.kb HV.out.nb HV.out.tb HV.out.lb (fun i hi h => ⟨by have := HP.out; omega, fun e => by have := ((HWR.out.2 rfl).1.lt e).1; have := HP.out; omega⟩))
          clear hap hst
          go_wp2_with (fail)
          refine HWt.out.mono ?_
          rintro r w2 ⟨rfl, v2, h2, k2, m2⟩
          have K2 := Lib.hid (HWR.out.over k2 HC.out (Nat.le_of_eq HP.out))
          have O2 : Hid (Ow 5 .u8 w2 (p + 1) u4 (encs vl k)) := Lib.hid (HO.out.1.ch k2 fun b e e' => by
            rcases e' with e' | e'
            · have := (HO.out.1.lt e).1; omega
            · exact HAP.out b e e')
          have AP2 : Hid (∀ b, u4.ownBlock = some b → v2.ownBlock ≠ some b) := Lib.hid fun b e e' => by
            rcases m2 with m | ⟨g', m, h⟩
            · rw [m] at e'; exact HAP.out b e e'
            · rw [m] at e'; injection e' with e'; have := (HO.out.1.lt e).2; omega
          have H2 := Lib.hid h2
          have d0 := K2.out
          have hv2 := (HX.out k g)
          obtain ⟨b', o', eb, hbl2, hv3⟩ := hv2
          injection eb with eb
          injection eb with eb1 eb2
          subst eb1 eb2
          have hv := hv3.ch K2.out (fun h => h) fun _ _ _ h => h
          have e4 : o + 4 * k = o + k * 4 := by omega
          rw [e4] at hv
          have d0 := hv.c0
          have d1 := hv.c1
          have d2 := hv.c2
          have d3 := hv.c3
          have HFm := Lib.hid (form_any hv.t hv.l hv.kb hv.nb hv.lb HSM.out.1 HSM.out.2)
          have HOL := Lib.hid HO.out.2
          clear h2 k2 m2 HWR HC HWt HV hv hv3 hbl2 e4 HO HAP c0 c1 c2 c3
          go_wp2_with (fail)
          refine HFm.out.mono ?_
          rintro r w3 ⟨vf, rfl, of, k3⟩
          have K3 := Lib.hid (K2.out.then k3)
          have O3 := Lib.hid (O2.out.no k3)
          have H3 := Lib.hid (H2.out.no k3)
          have OF := Lib.hid of
          have HVL := Lib.hid (show (∀ b, u4.ownBlock = some b → b < w3.heap.size) ∧ (∀ b, v2.ownBlock = some b → p + 1 ≤ b → True) from ⟨fun b e => (O3.out.lt e).2, fun _ _ _ => trivial⟩)
          have S3 : Hid (p + 1 ≤ w3.heap.size) := Lib.hid (by have := H3.out.lt; omega)
          clear of k3 HFm K2 O2 H2 d0 d1 d2 d3
          by_cases gb : (vl k).bad
          · have HE : Hid (wVal ⟨0, encs vl k⟩ (vl k) = ⟨2, encs vl k⟩) := Lib.hid (by unfold wVal; rw [if_pos ⟨rfl, gb⟩])
            rw [HE.out] at H3
            rw [show okV (vl k) = false by simp [okV, gb]]
            have HFL := Lib.hid (formL_bad gb)
            clear gb HE
            go_wp2_with (at_builtin; refine app rfl _ _ _ rfl Try.underlying28 infoU8 (by decide) rfl rfl O3.out S3.out _ _ OF.out.rw_ (by rw [HFL.out]; have := HOL.out; simp only [List.length_nil]; omega) ?_)
            intro u5 w4 o4 k4 m4
            rw [HFL.out, List.append_nil] at o4
            have K4 := Lib.hid (show Ch No w w4 from K3.out.trans k4 fun i hi e => by have := (O3.out.lt e).1; have := HP.out; omega)
            have O4 := Lib.hid o4
            have H4 : Hid (WrAt w4 p v2 ⟨2, encs vl k⟩) := Lib.hid ⟨(k4.block p H3.out.lt fun e => by have := (O3.out.lt e).1; omega).trans H3.out.1, fun e => by cases e⟩
            have HEn := Lib.hid (end_any H4.out)
            clear o4 k4 m4 K3 O3 H3 OF
            go_wp2_with (fail)
            refine HEn.out.mono ?_
            rintro r w5 ⟨vg, rfl, og, k5⟩
            rw [outW_1 (by show ¬ (2 : Int) = 0; decide)] at og
            obtain ⟨Ag, cg, rfl⟩ := og.shape
            have K5 := Lib.hid (K4.out.then k5)
            have O5 := Lib.hid (O4.out.no k5)
            have H5 := Lib.hid (H4.out.no k5)
            clear og k5 K4 O4 H4 HEn
            go_wp2_with (fail)
            go_roundw
            case rel => exact ⟨k + 1, v2, _, _, by go_num, by omega, H5, K5, Lib.hid ⟨O5.out, by have := HOL.out; omega⟩, .inr ⟨rfl, Lib.hid rfl⟩⟩
            case measure => simp [intOf]; omega
          · have HE : Hid (wVal ⟨0, encs vl k⟩ (vl k) = ⟨0, encs vl (k + 1)⟩) := Lib.hid (by
              unfold wVal
              rw [if_neg fun h => gb h.2]
              have h1 := encs_len (fun i hi => (HEL.out i hi).1) k (by omega)
              have h2 := (HEL.out k g).1
              rw [wr_ok (by omega), encs_succ])
            rw [HE.out] at H3
            rw [show okV (vl k) = true by simp [okV, gb]]
            have HFL := Lib.hid (formL_ok gb)
            have HEK := Lib.hid (HEL.out k g).1
            clear gb HE
            go_wp2_with (at_builtin; refine app rfl _ _ _ rfl Try.underlying28 infoU8 (by decide) rfl rfl O3.out S3.out _ _ OF.out.rw_ (by rw [HFL.out]; have := HOL.out; have := HEK.out; omega) ?_)
            intro u5 w4 o4 k4 m4
            rw [HFL.out, ← encs_succ] at o4
            have K4 := Lib.hid (show Ch No w w4 from K3.out.trans k4 fun i hi e => by have := (O3.out.lt e).1; have := HP.out; omega)
            have O4 := Lib.hid o4
            have H4 : Hid (WrAt w4 p v2 ⟨0, encs vl (k + 1)⟩) := Lib.hid (H3.out.ch k4 (fun e => by have := (O3.out.lt e).1; omega) fun b e e' => AP2.out b e' e)
            have AP4 : Hid (∀ b, u5.ownBlock = some b → v2.ownBlock ≠ some b) := Lib.hid fun b e e' => by
              rcases m4 with m | ⟨g', m, h⟩
              · rw [m] at e; exact AP2.out b e e'
              · rw [m] at e; injection e with e; have := ((H3.out.2 rfl).1.lt e').2; omega
            have HEn := Lib.hid (end_any H4.out)
            clear o4 k4 m4 K3 O3 H3 OF AP2 HVL
            go_wp2_with (fail)
            refine HEn.out.mono ?_
            rintro r w5 ⟨vg, rfl, og, k5⟩
            rw [outW_0] at og
            obtain ⟨sE, hsE⟩ : ∃ s, strOfNums (encs vl (k + 1)) = s := ⟨_, rfl⟩
            have hc1 : (convert 28 9 vg).run Try.prog w5 = .ok (.string sE) w5 := by rw [← hsE]; exact conv_rw og.rw_
            have hc2 : (convert 28 9 u5).run Try.prog w5 = .ok (.string sE) w5 := by rw [← hsE]; exact conv_rw (O4.out.no k5).rw_
            have K5 := Lib.hid (K4.out.then k5)
            have O5 := Lib.hid (O4.out.no k5)
            have H5 := Lib.hid (H4.out.no k5)
            clear og k5 K4 O4 H4 HEn hsE
            go_wp2_with (fail)
            clear hc1 hc2
            go_roundw
            case rel => exact ⟨k + 1, v2, _, _, by go_num, by omega, H5, K5, Lib.hid ⟨O5.out, by have := encs_len (fun i hi => (HEL.out i hi).1) (k + 1) (by omega); omega⟩, .inl ⟨rfl, Lib.hid ⟨rfl, rfl, AP4.out⟩⟩⟩
            case measure => simp [intOf]; omega
        · have he2 : x.er = 2 := hst.out
          have HE2 := Lib.hid he2
          have HWt := Lib.hid (write_bad (y := vl k) HWR.out (by rw [he2]; decide) HV.out.t HV.out.l HV.out.kb HV.out.nb HV.out.tb HV.out.lb)
          clear he2 hst
          go_wp2_with (fail)
          refine HWt.out.mono ?_
          rintro r w2 ⟨rfl, k2⟩
          have K2 := Lib.hid (HC.out.then k2)
          have O2 := Lib.hid (HO.out.1.no k2)
          have H2 := Lib.hid (HWR.out.no k2)
          have hv2 := (HX.out k g)
          obtain ⟨b', o', eb, hbl2, hv3⟩ := hv2
          injection eb with eb
          injection eb with eb1 eb2
          subst eb1 eb2
          have hv := hv3.ch K2.out (fun h => h) fun _ _ _ h => h
          have e4 : o + 4 * k = o + k * 4 := by omega
          rw [e4] at hv
          have d0 := hv.c0
          have d1 := hv.c1
          have d2 := hv.c2
          have d3 := hv.c3
          have HFm := Lib.hid (form_any hv.t hv.l hv.kb hv.nb hv.lb HSM.out.1 HSM.out.2)
          have HOL := Lib.hid HO.out.2
          have HFLn : Hid ((formL (vl k)).length ≤ 510) := Lib.hid (by
            unfold formL
            split
            · simp
            · exact (HEL.out k g).1)
          clear k2 HWR HC HWt HV hv hv3 hbl2 e4 HO c0 c1 c2 c3
          go_wp2_with (fail)
          refine HFm.out.mono ?_
          rintro r w3 ⟨vf, rfl, of, k3⟩
          have K3 := Lib.hid (K2.out.then k3)
          have O3 := Lib.hid (O2.out.no k3)
          have H3 := Lib.hid (H2.out.no k3)
          have OF := Lib.hid of
          have S3 : Hid (p + 1 ≤ w3.heap.size) := Lib.hid (by have := H3.out.lt; omega)
          clear of k3 HFm K2 O2 H2 d0 d1 d2 d3
          generalize okV (vl k) = okb at *
          go_wp2_with (at_builtin; refine app rfl _ _ _ rfl Try.underlying28 infoU8 (by decide) rfl rfl O3.out S3.out _ _ OF.out.rw_ (by have := HOL.out; have := HFLn.out; omega) ?_)
          intro u5 w4 o4 k4 m4
          have K4 := Lib.hid (show Ch No w w4 from K3.out.trans k4 fun i hi e => by have := (O3.out.lt e).1; have := HP.out; omega)
          have O4 := Lib.hid o4
          have H4 : Hid (WrAt w4 p v x) := Lib.hid ⟨(k4.block p H3.out.lt fun e => by have := (O3.out.lt e).1; omega).trans H3.out.1, fun e => by rw [HE2.out] at e; cases e⟩
          have HEn := end_any H4.out
          rw [HE2.out] at HEn
          have HEn := Lib.hid HEn
          clear o4 k4 m4 K3 O3 H3 OF
          go_wp2_with (fail)
          refine HEn.out.mono ?_
          rintro r w5 ⟨vg, rfl, og, k5⟩
          rw [outW_1 (by rw [HE2.out]; decide)] at og
          obtain ⟨Ag, cg, rfl⟩ := og.shape
          have K5 := Lib.hid (K4.out.then k5)
          have O5 := Lib.hid (O4.out.no k5)
          have H5 := Lib.hid (H4.out.no k5)
          clear og k5 K4 O4 H4 HEn
          go_wp2_with (fail)
          go_roundw
          case rel => exact ⟨k + 1, v, _, x, by go_num, by omega, H5, K5, Lib.hid ⟨O5.out, by have := HOL.out; have := HFLn.out; rw [List.length_append]; omega⟩, .inr ⟨rfl, HE2⟩⟩
          case measure => simp [intOf]; omega
      · obtain rfl : k = n := by omega
        have HC := hc
        clear hwr hc ho
        rcases hst with ⟨rfl, -⟩ | ⟨rfl, -⟩
        all_goals
          go_wp2_with (fail)
          refine (known_any wr).mono ?_
          rintro r w2 ⟨rfl, k2⟩
          go_wp2_with (fail)
          go_ret
          exact ⟨rfl, HC.out.then k2⟩
end Go.Proofs.Ytocdjieaphkbdaa
