/- The law WireNone. -/
import Derived.Test.YtiodoemblffmjaaWu0
namespace Go.Proofs.Ytiodoemblffmjaa
open Go.RowKit

set_option maxRecDepth 100000 in
set_option maxHeartbeats 8000000 in
theorem none_any {n : Int} {P : Nat → Prop} {A : Option Addr} {m c : Nat} {bs : List Int} (w : World) (h1 : -9223372036854775808 ≤ n) (h2 : n ≤ 9223372036854775807) (hl : bs.length = m) (hr : Rw w P .u8 (.slice A m c) bs) (hb : Bys8 bs) :
    Calls Try.prog 10 #[.int .i64 n, .slice A m c] w fun e w' => e = .returned (.bool true) ∧ Ch No w w' := by
  clear hl hr hb h1 h2
  by_cases g : 50 < m
  · have gI : (m : Int) > 50 := by omega
    have HK := Lib.hid (known_any w)
    go_enter Try.func10, Try.ntmps10
    go_wp2_with (fail)
    refine HK.out.mono ?_
    rintro e w1 ⟨rfl, k1⟩
    go_wp2_with (fail)
    go_ret
    exact ⟨rfl, k1⟩
  · have gI : ¬ (m : Int) > 50 := by omega
    have z1 := zWVal
    have z2 := zReader
    go_enter Try.func10, Try.ntmps10
    go_wp2_with (fail)
    refine (write_nil0 (w := w) (n := n)).mono ?_
    rintro e w1 ⟨rfl, k1⟩
    have K1 := Lib.hid k1
    clear k1
    go_wp2_with (fail)
    refine (write_nil3 (w := w1) (A := A) (n := m) (c := c)).mono ?_
    rintro e w2 ⟨rfl, k2⟩
    have K2 := Lib.hid (K1.out.then k2)
    clear k2 K1
    go_wp2_with (fail)
    refine (end_nil (w := w2)).mono ?_
    rintro e w3 ⟨rfl, hw⟩
    rw [hw]
    clear hw
    go_wp2_with (fail)
    obtain ⟨q, hq⟩ : ∃ q, w2.heap.size = q := ⟨_, rfl⟩
    have K3 := Lib.hid ((K2.out.then (Ch.new w2 (.cells #[.int .i64 0, .bool false, .slice none 0 0, .int .i64 0] 80))).then (Ch.new _ (.cells #[.pointer none, .pointer (some ⟨q, 0, none⟩)] 41)))
    have R1 := Lib.hid (show ((w2.alloc (.cells #[.int .i64 0, .bool false, .slice none 0 0, .int .i64 0] 80)).alloc (.cells #[.pointer none, .pointer (some ⟨q, 0, none⟩)] 41)).cell? ⟨q, 1, none⟩ = some (.bool false) from (Ch.new _ _).cell (by rw [World.cell?_alloc_at _ _ _ _ hq.symm]; rfl) (fun h => h))
    have hs1 : (w2.alloc (.cells #[.int .i64 0, .bool false, .slice none 0 0, .int .i64 0] 80)).heap.size = q + 1 := by simp [hq]
    have R2 := Lib.hid (show ((w2.alloc (.cells #[.int .i64 0, .bool false, .slice none 0 0, .int .i64 0] 80)).alloc (.cells #[.pointer none, .pointer (some ⟨q, 0, none⟩)] 41)).cell? ⟨q + 1, 0, none⟩ = some (.pointer none) from by rw [World.cell?_alloc_at _ _ _ _ hs1.symm]; rfl)
    have R3 := Lib.hid (show ((w2.alloc (.cells #[.int .i64 0, .bool false, .slice none 0 0, .int .i64 0] 80)).alloc (.cells #[.pointer none, .pointer (some ⟨q, 0, none⟩)] 41)).cell? ⟨q + 1, 1, none⟩ = some (.pointer (some ⟨q, 0, none⟩)) from by rw [World.cell?_alloc_at _ _ _ _ hs1.symm]; rfl)
    rw [hq]
    generalize (w2.alloc (.cells #[.int .i64 0, .bool false, .slice none 0 0, .int .i64 0] 80)).alloc (.cells #[.pointer none, .pointer (some ⟨q, 0, none⟩)] 41) = W0 at *
    clear hs1 hq z1 z2 K2
    go_loopw [40] (fun i wx => ∃ k : Nat, i = .int .i64 k ∧ k ≤ 2 ∧ Hid (Ch No W0 wx)) (fun i _ => 2 - (intOf i).toNat)
    case atStart => exact ⟨0, rfl, by omega, Lib.hid (Ch.refl _ _)⟩
    case round =>
      obtain ⟨k, rfl, hk, hc⟩ := hrel
      by_cases g2 : k < 2
      · have gI : (k : Int) < 2 := by omega
        obtain ⟨v, c1, HN⟩ : ∃ v, wr.cell? ⟨q + 1, k, none⟩ = some v ∧ Hid (NoRd wr v) := by
          rcases (by omega : k = 0 ∨ k = 1) with rfl | rfl
          · exact ⟨_, hc.out.cell R2.out (fun h => h), Lib.hid (.inl rfl)⟩
          · exact ⟨_, hc.out.cell R3.out (fun h => h), Lib.hid (.inr ⟨q, rfl, hc.out.cell R1.out (fun h => h)⟩)⟩
        have KR := hc
        clear hc
        go_wp2_with (fail)
        refine (rfail_no (e := 2) HN.out).mono ?_
        rintro e x0 ⟨rfl, hw⟩
        rw [hw]
        clear hw
        go_wp2_with (fail)
        refine (ruint_no HN.out).mono ?_
        rintro e x1 ⟨rfl, k1⟩
        have N1 := Lib.hid (HN.out.no k1)
        have K1 := Lib.hid (KR.out.then k1)
        clear k1 HN KR
        go_wp2_with (fail)
        refine (rint_no N1.out).mono ?_
        rintro e x2 ⟨rfl, k2⟩
        have N2 := Lib.hid (N1.out.no k2)
        have K2 := Lib.hid (K1.out.then k2)
        clear k2 N1 K1
        go_wp2_with (fail)
        refine (rbool_no N2.out).mono ?_
        rintro e x3 ⟨rfl, k3⟩
        have N3 := Lib.hid (N2.out.no k3)
        have K3 := Lib.hid (K2.out.then k3)
        clear k3 N2 K2
        go_wp2_with (fail)
        refine (rcount_no (lim := n) N3.out).mono ?_
        rintro e x4 ⟨rfl, k4⟩
        have N4 := Lib.hid (N3.out.no k4)
        have K4 := Lib.hid (K3.out.then k4)
        clear k4 N3 K3
        go_wp2_with (fail)
        refine (rbytes_no (lim := n) N4.out).mono ?_
        rintro e x5 ⟨rfl, k5⟩
        have N5 := Lib.hid (N4.out.no k5)
        have K5 := Lib.hid (K4.out.then k5)
        clear k5 N4 K4
        go_wp2_with (fail)
        refine (rstring_no (lim := n) N5.out).mono ?_
        rintro e x6 ⟨rfl, k6⟩
        have N6 := Lib.hid (N5.out.no k6)
        have K6 := Lib.hid (K5.out.then k6)
        clear k6 N5 K5
        go_wp2_with (fail)
        refine (rints_no (lim := n) N6.out).mono ?_
        rintro e x7 ⟨rfl, k7⟩
        have N7 := Lib.hid (N6.out.no k7)
        have K7 := Lib.hid (K6.out.then k7)
        clear k7 N6 K6
        go_wp2_with (fail)
        refine (at_no N7.out).mono ?_
        rintro e x8 ⟨rfl, hw⟩
        rw [hw]
        clear hw
        go_wp2_with (fail)
        refine (err_no N7.out).mono ?_
        rintro e x9 ⟨rfl, hw⟩
        rw [hw]
        clear hw
        go_wp2_with (fail)
        refine (rend_no N7.out).mono ?_
        rintro e x10 ⟨rfl, k10⟩
        have N10 := Lib.hid (N7.out.no k10)
        have K10 := Lib.hid (K7.out.then k10)
        clear k10 N7 K7
        go_wp2_with (fail)
        go_roundw
        case rel => exact ⟨k + 1, by go_num, by omega, K10⟩
        case measure => simp [intOf]; omega
      · obtain rfl : k = 2 := by omega
        have HK := Lib.hid (known_any wr)
        have KR := hc
        clear hc
        go_wp2_with (fail)
        refine HK.out.mono ?_
        rintro e w9 ⟨rfl, k9⟩
        go_wp2_with (fail)
        go_ret
        exact ⟨rfl, (K3.out.then KR.out).then k9⟩
end Go.Proofs.Ytiodoemblffmjaa
