/- The law WireOnce. -/
import Derived.Test.YtocdjieaphkbdaaYb0
namespace Go.Proofs.Ytocdjieaphkbdaa
open Go.RowKit

set_option maxRecDepth 100000 in
set_option maxHeartbeats 8000000 in
theorem once_any {P : Nat → Prop} {A0 A : Option Addr} {n0 c0 n c : Nat} {bd : List Int} {al : Nat → Nat × Int} (w : World) (hl : bd.length = n0) (hr : Rw w P .u8 (.slice A0 n0 c0) bd) (hb : Bys8 bd) (hx : ActsAt w A n al) :
    Calls Try.prog 8 #[.slice A0 n0 c0, .slice A n c] w fun e w' => e = .returned (.bool true) ∧ Ch No w w' := by
  by_cases g1 : 300 < n0
  · have gI : (n0 : Int) > 300 := by omega
    clear hl hr hb hx g1
    go_enter Try.func8, Try.ntmps8
    go_wp2_with (fail)
    refine (known_any w).mono ?_
    rintro r w2 ⟨rfl, k2⟩
    go_wp2_with (fail)
    go_ret
    exact ⟨rfl, k2⟩
  have gI : ¬ (n0 : Int) > 300 := by omega
  by_cases g2 : 12 < n
  · have gJ : (n : Int) > 12 := by omega
    clear hl hr hb hx g1 g2
    go_enter Try.func8, Try.ntmps8
    go_wp2_with (fail)
    refine (known_any w).mono ?_
    rintro r w2 ⟨rfl, k2⟩
    go_wp2_with (fail)
    go_ret
    exact ⟨rfl, k2⟩
  have gJ : ¬ (n : Int) > 12 := by omega
  have hn12 : n ≤ 12 := by omega
  have HX := Lib.hid hx
  have HR := Lib.hid hr
  have HRd := Lib.hid (read_any hr (by omega) hb)
  have HL := Lib.hid hl
  clear hl hr hb hx g1 g2
  go_enter Try.func8, Try.ntmps8
  go_wp2_with (fail)
  refine HRd.out.mono ?_
  rintro r w1 ⟨q, Aq, cq, rfl, hq, hrd, k1, hrw⟩
  obtain ⟨p, hp⟩ : ∃ p, w1.heap.size = p := ⟨_, rfl⟩
  have HO : Hid (OSt w (w1.alloc (.cells #[.int .i64 0, .slice none 0 0] 30)) q p Aq bd.length cq bd 0 (.slice none 0 0) [] [] 0 0) := Lib.hid (by
    rw [← hp]
    have kn := Ch.new w1 (.cells #[.int .i64 0, .slice none 0 0] 30)
    exact ⟨hrd.no kn, ((hrd.2.1.and hrw).mono fun i hi h' => ⟨h'.1, hi⟩).ch kn fun _ _ _ h' => h', WrAt.new w1, by simp, fun _ => by simp, k1.then kn, hq, hrd.lt⟩)
  have HP := Lib.hid hp
  clear hrd k1 hrw HRd hq
  go_wp2_with (fail)
  go_loopw [7] (fun i wx => ∃ (k : Nat) (v : Value) (out : List Int) (er : Int) (a : Nat), i = .int .i64 k ∧ k ≤ n ∧ Hid (OSt w wx q p Aq bd.length cq bd k v out [] er a)) (fun i _ => n - (intOf i).toNat)
  case atStart => exact ⟨0, _, _, _, _, rfl, Nat.zero_le _, HO⟩
  case round =>
    obtain ⟨k, v, out, er, a, rfl, hk, ho⟩ := hrel
    clear HO
    by_cases g : k < n
    · have gK : (k : Int) < n := by omega
      obtain ⟨b, o, rfl, hbl, hc0, hc1, hk256, hlm⟩ := HX.out k g
      have e4 : o + 2 * k = o + k * 2 := by omega
      rw [e4] at hc0
      have d0 := ho.out.ch.cell hc0 (fun h => h)
      have hk256 : ((al k).1 : Int) < 256 := by omega
      obtain ⟨z, hz⟩ : ∃ z : Nat, (al k).1 % 8 = z := ⟨_, rfl⟩
      have hzi : ((al k).1 : Int) % 8 = (z : Int) := by omega
      have hz8 : z < 8 := by omega
      have HO := ho
      clear hbl hc0 hc1 hlm e4 hz ho
      rcases (by omega : z = 0 ∨ z = 3 ∨ z = 1 ∨ z = 2 ∨ z = 4 ∨ z = 5 ∨ z = 6 ∨ z = 7) with rfl | rfl | rfl | rfl | rfl | rfl | rfl | rfl
      · go_wp2_with (fail)
        refine (ord_uint HO.out).mono ?_
        rintro r w2 ⟨u, er2, a2, rfl, hu, h2⟩
        have HU := Lib.hid hu
        have H2 := Lib.hid h2
        clear hu h2 HO d0
        go_wp2_with (fail)
        refine (owr_uint H2.out (by omega) HU.out).mono ?_
        rintro r w3 ⟨rfl, v3, h3⟩
        have H3 := Lib.hid h3
        clear h3 H2 HU
        go_wp2_with (fail)
        go_roundw
        case rel => exact ⟨k + 1, v3, _, _, _, by go_num, by omega, H3⟩
        case measure => simp [intOf]; omega
      · go_wp2_with (fail)
        refine (ord_uint HO.out).mono ?_
        rintro r w2 ⟨u, er2, a2, rfl, hu, h2⟩
        have HU := Lib.hid hu
        have H2 := Lib.hid h2
        clear hu h2 HO d0
        go_wp2_with (fail)
        refine (owr_uint H2.out (by omega) HU.out).mono ?_
        rintro r w3 ⟨rfl, v3, h3⟩
        have H3 := Lib.hid h3
        clear h3 H2 HU
        go_wp2_with (fail)
        go_roundw
        case rel => exact ⟨k + 1, v3, _, _, _, by go_num, by omega, H3⟩
        case measure => simp [intOf]; omega
      · go_wp2_with (fail)
        refine (ord_int HO.out).mono ?_
        rintro r w2 ⟨u, er2, a2, rfl, hu, h2⟩
        have HU := Lib.hid hu
        have H2 := Lib.hid h2
        clear hu h2 HO d0
        go_wp2_with (fail)
        refine (owr_int H2.out (by omega) HU.out).mono ?_
        rintro r w3 ⟨rfl, v3, h3⟩
        have H3 := Lib.hid h3
        clear h3 H2 HU
        go_wp2_with (fail)
        go_roundw
        case rel => exact ⟨k + 1, v3, _, _, _, by go_num, by omega, H3⟩
        case measure => simp [intOf]; omega
      · go_wp2_with (fail)
        refine (ord_bool HO.out).mono ?_
        rintro r w2 ⟨u, er2, a2, rfl, hu, h2⟩
        have HU := Lib.hid hu
        have H2 := Lib.hid h2
        clear hu h2 HO d0
        go_wp2_with (fail)
        refine (owr_bool H2.out (by omega)).mono ?_
        rintro r w3 ⟨rfl, v3, h3⟩
        have H3 := Lib.hid h3
        clear h3 H2 HU
        go_wp2_with (fail)
        go_roundw
        case rel => exact ⟨k + 1, v3, _, _, _, by go_num, by omega, H3⟩
        case measure => simp [intOf]; omega
      · go_wp2_with (fail)
        refine (ord_bytes HO.out).mono ?_
        rintro r w2 ⟨Ax, nx, cx, u, er2, a2, rfl, hu, h2⟩
        have HU := Lib.hid hu
        have H2 := Lib.hid h2
        clear hu h2 HO d0
        go_wp2_with (fail)
        refine (owr_bytes H2.out (by omega) HU.out).mono ?_
        rintro r w3 ⟨rfl, v3, h3⟩
        have H3 := Lib.hid h3
        clear h3 H2 HU
        go_wp2_with (fail)
        go_roundw
        case rel => exact ⟨k + 1, v3, _, _, _, by go_num, by omega, H3⟩
        case measure => simp [intOf]; omega
      · go_wp2_with (fail)
        refine (ord_string HO.out).mono ?_
        rintro r w2 ⟨u, er2, a2, rfl, hu, h2⟩
        have HU := Lib.hid hu
        have H2 := Lib.hid h2
        clear hu h2 HO d0
        go_wp2_with (fail)
        refine (owr_string H2.out (by omega) HU.out).mono ?_
        rintro r w3 ⟨rfl, v3, h3⟩
        have H3 := Lib.hid h3
        clear h3 H2 HU
        go_wp2_with (fail)
        go_roundw
        case rel => exact ⟨k + 1, v3, _, _, _, by go_num, by omega, H3⟩
        case measure => simp [intOf]; omega
      · go_wp2_with (fail)
        refine (ord_ints HO.out).mono ?_
        rintro r w2 ⟨Ax, nx, cx, u, er2, a2, rfl, hu, h2⟩
        have HU := Lib.hid hu
        have H2 := Lib.hid h2
        clear hu h2 HO d0
        go_wp2_with (fail)
        refine (owr_ints H2.out (by omega) HU.out).mono ?_
        rintro r w3 ⟨rfl, v3, h3⟩
        have H3 := Lib.hid h3
        clear h3 H2 HU
        go_wp2_with (fail)
        go_roundw
        case rel => exact ⟨k + 1, v3, _, _, _, by go_num, by omega, H3⟩
        case measure => simp [intOf]; omega
      · go_wp2_with (fail)
        refine (ord_ints HO.out).mono ?_
        rintro r w2 ⟨Ax, nx, cx, u, er2, a2, rfl, hu, h2⟩
        have HU := Lib.hid hu
        have H2 := Lib.hid h2
        clear hu h2 HO d0
        go_wp2_with (fail)
        refine (owr_ints H2.out (by omega) HU.out).mono ?_
        rintro r w3 ⟨rfl, v3, h3⟩
        have H3 := Lib.hid h3
        clear h3 H2 HU
        go_wp2_with (fail)
        go_roundw
        case rel => exact ⟨k + 1, v3, _, _, _, by go_num, by omega, H3⟩
        case measure => simp [intOf]; omega
    · obtain rfl : k = n := by omega
      have HEnd := Lib.hid (rend_ok ho.out.rd)
      have HO := ho
      obtain ⟨E, hE⟩ : ∃ E, endE er a bd.length = E := ⟨_, rfl⟩
      have HEE := Lib.hid hE
      rw [hE] at HEnd
      clear ho hE
      by_cases gE : E = 0
      · subst gE
        have hea : er = 0 ∧ ¬ a < bd.length := by
          have := HEE.out
          unfold endE at this
          split at this
          · refine ⟨by assumption, fun h => ?_⟩
            rw [if_pos h] at this
            cases this
          · exact absurd this (by assumption)
        have ho : out = bd := by
          have := HO.out.eq hea.1
          rw [List.append_nil] at this
          rw [this, List.take_of_length_le (by omega)]
        subst ho
        clear hea HEE
        go_wp2_with (fail)
        refine HEnd.out.mono ?_
        rintro r w2 ⟨rfl, k2⟩
        have HW := Lib.hid (end_any (HO.out.wr_.no k2))
        have K2 := Lib.hid (HO.out.ch.then k2)
        clear k2 HO HEnd
        go_wp2_with (fail)
        refine HW.out.mono ?_
        rintro r w3 ⟨vb, rfl, ob, k3⟩
        rw [outW_0] at ob
        obtain ⟨sE, hsE⟩ : ∃ s, strOfNums out = s := ⟨_, rfl⟩
        have hc1 : (convert 28 9 vb).run Try.prog w3 = .ok (.string sE) w3 := by rw [← hsE]; exact conv_rw ob.rw_
        have hc2 : (convert 28 9 (.slice A0 n0 c0)).run Try.prog w3 = .ok (.string sE) w3 := by rw [← hsE]; exact conv_rw (HR.out.ch (K2.out.then k3) fun _ _ _ h => h)
        have K3 := Lib.hid (K2.out.then k3)
        clear ob k3 K2 HW hsE
        go_wp2_with (fail)
        clear hc1 hc2
        refine (known_any w3).mono ?_
        rintro r w4 ⟨rfl, k4⟩
        go_wp2_with (fail)
        go_ret
        exact ⟨rfl, K3.out.then k4⟩
      · clear HEE
        go_wp2_with (fail)
        refine HEnd.out.mono ?_
        rintro r w2 ⟨rfl, k2⟩
        have K2 := Lib.hid (HO.out.ch.then k2)
        clear k2 HO HEnd
        go_wp2_with (fail)
        refine (known_any w2).mono ?_
        rintro r w3 ⟨rfl, k3⟩
        go_wp2_with (fail)
        go_ret
        exact ⟨rfl, K2.out.then k3⟩
end Go.Proofs.Ytocdjieaphkbdaa
