/- SealStreams: the walk. -/
import Derived.Test.YtdjfklllfbenjaaDoorEm
import Derived.Deep.RegionWith
namespace Go.Proofs.YtdjfklllfbenjaaDoor
open Go.RowKit

set_option maxRecDepth 100000 in
set_option maxHeartbeats 8000000 in
theorem streams_any (A0 A1 : Option Addr) (n0 c0 n1 c1 : Nat) (kd nd : List Int) (z : Int) (w : World) (hl0 : kd.length = n0) (hk0 : PartAt w w.heap.size (.slice A0 n0 c0) kd) (hA0 : A0 = none → c0 = 0) (hl1 : nd.length = n1) (hk1 : PartAt w w.heap.size (.slice A1 n1 c1) nd) (hA1 : A1 = none → c1 = 0) (htab : Tabs w) :
    Calls Tryd.prog 9 #[.slice A0 n0 c0, .slice A1 n1 c1, .int .i64 z] w fun e w' => e = .returned (.bool true) ∧ Below w.heap.size w w' := by
  have HKN : Hid (∀ w', Below w.heap.size w w' → Calls Tryd.prog 23 #[] w' fun e w'' => e = .returned (.bool true) ∧ Below w.heap.size w w'') := Lib.hid fun w' h => (sknown_any w' (htab.below h htab.lt)).mono fun e w'' hh => ⟨hh.1, h.trans (hh.2.mono h.size)⟩
  by_cases g1 : 100 < n0
  · have gI : (100 : Int) < n0 := by omega
    clear hl0 hk0 hA0 hl1 hk1 hA1 htab g1
    go_enter Tryd.func9, Tryd.ntmps9
    go_wp2_with (fail)
    refine (HKN.out w (Below.refl _ _)).mono ?_
    rintro e w1 ⟨rfl, h1⟩
    go_wp2_with (fail)
    go_ret
    exact ⟨rfl, h1⟩
  by_cases g2 : 100 < n1
  · have gI : ¬ (100 : Int) < n0 := by omega
    have gJ : (100 : Int) < n1 := by omega
    clear hl0 hk0 hA0 hl1 hk1 hA1 htab g1 g2
    go_enter Tryd.func9, Tryd.ntmps9
    go_wp2_with (fail)
    refine (HKN.out w (Below.refl _ _)).mono ?_
    rintro e w1 ⟨rfl, h1⟩
    go_wp2_with (fail)
    go_ret
    exact ⟨rfl, h1⟩
  have gI : ¬ (100 : Int) < n0 := by omega
  have gJ : ¬ (100 : Int) < n1 := by omega
  by_cases g6 : 300 < z ∧ z ≤ 65504
  · obtain ⟨g7, g8⟩ := g6
    clear hl0 hk0 hA0 hl1 hk1 hA1 htab g1 g2
    go_enter Tryd.func9, Tryd.ntmps9
    go_wp2_with (fail)
    refine (HKN.out w (Below.refl _ _)).mono ?_
    rintro e w1 ⟨rfl, h1⟩
    go_wp2_with (fail)
    go_ret
    exact ⟨rfl, h1⟩
  by_cases g3 : n0 = 32
  · subst g3
    by_cases g4 : n1 = 16
    · subst g4
      by_cases g5 : z < 0
      · have gA : ¬ (300 : Int) < z := by omega
        clear hl0 hk0 hA0 hl1 hk1 hA1 htab g6
        go_enter Tryd.func9, Tryd.ntmps9
        go_wp2_with (fail)
        refine (Stream_no A0 A1 32 c0 16 c1 z w (by omega)).mono ?_
        rintro e w ⟨rfl, rfl⟩
        go_wp2_with (fail)
        refine (refused_any none 0 0 2 2 true w (by decide)).mono ?_
        rintro e w ⟨rfl, rfl⟩
        go_wp2_with (fail)
        refine (HKN.out w (Below.refl _ _)).mono ?_
        rintro e w1 ⟨rfl, h1⟩
        go_wp2_with (fail)
        go_ret
        exact ⟨rfl, h1⟩
      by_cases g9 : (65504 : Int) < z
      · have gA : (300 : Int) < z := by omega
        have gB : ¬ z ≤ 65504 := by omega
        clear hl0 hk0 hA0 hl1 hk1 hA1 htab g6
        go_enter Tryd.func9, Tryd.ntmps9
        go_wp2_with (fail)
        refine (Stream_no A0 A1 32 c0 16 c1 z w (by omega)).mono ?_
        rintro e w ⟨rfl, rfl⟩
        go_wp2_with (fail)
        refine (refused_any none 0 0 2 2 true w (by decide)).mono ?_
        rintro e w ⟨rfl, rfl⟩
        go_wp2_with (fail)
        refine (HKN.out w (Below.refl _ _)).mono ?_
        rintro e w1 ⟨rfl, h1⟩
        go_wp2_with (fail)
        go_ret
        exact ⟨rfl, h1⟩
      obtain ⟨n, rfl⟩ : ∃ n : Nat, z = n := ⟨z.toNat, by omega⟩
      have gA : ¬ (300 : Int) < n := by omega
      have gB : ¬ (65504 : Int) < n := by omega
      have gC : ¬ (n : Int) < 0 := by omega
      have HC := Lib.hid (Stream_ok A0 A1 c0 c1 n kd nd w hl0 hk0 hl1 hk1 (by omega) htab)
      have HR : Hid (∀ w', Below w.heap.size w w' → Calls Tryd.prog 28 #[.slice A0 32 c0, .slice A1 16 c1, .int .i64 n] w' fun e w'' => (∃ v, e = .returned v ∧ Own w'' w'.heap.size v (streamL kd nd n)) ∧ Below w'.heap.size w' w'') := Lib.hid fun w' h => rstream_any A0 A1 32 c0 16 c1 n kd nd w' hl0 (by omega) hA0 (hk0.later h h.size) hl1 (by omega) hA1 (hk1.later h h.size) (by omega)
      clear hl0 hk0 hA0 hl1 hk1 hA1 htab g6 g5 g9 g1 g2 gI gJ
      go_enter Tryd.func9, Tryd.ntmps9
      go_wp2_with (fail)
      refine HC.out.mono ?_
      rintro e w1 ⟨⟨v1, rfl, o1⟩, b1⟩
      have O1 := Lib.hid o1
      have B1 := Lib.hid b1
      clear o1 b1 HC
      obtain ⟨sh, hsh⟩ : ∃ t, strOfNums (streamL kd nd n) = t := ⟨_, rfl⟩
      have hcd : (convert 22 9 v1).run Tryd.prog w1.drew = .ok (.string sh) w1.drew := by rw [← hsh]; exact conv_part (O1.out.below (Below.refl _ _).drew).part
      have HCALL : Hid (∀ w', Below w1.heap.size w1 w' → Calls Tryd.prog 28 #[.slice A0 32 c0, .slice A1 16 c1, .int .i64 n] w' fun e w'' => ∃ v', e = .returned v' ∧ (convert 22 9 v').run Tryd.prog w'' = .ok (.string sh) w'' ∧ (convert 22 9 v1).run Tryd.prog w'' = .ok (.string sh) w'' ∧ Below w1.heap.size w1 w'') := Lib.hid fun w' h => (HR.out w' (B1.out.trans (h.mono B1.out.size))).mono fun e w'' hh => by
        obtain ⟨⟨v', e1, h1⟩, h2⟩ := hh
        have hb := h.trans (h2.mono h.size)
        exact ⟨_, e1, by rw [← hsh]; exact conv_part h1.part, by rw [← hsh]; exact conv_part (O1.out.below hb).part, hb⟩
      have HCK : Hid (∀ w', Below w1.heap.size w1 w' → Calls Tryd.prog 23 #[] w' fun e w'' => e = .returned (.bool true) ∧ Below w.heap.size w w'') := Lib.hid fun w' h => HKN.out w' (B1.out.trans (h.mono B1.out.size))
      have hRD : Below w1.heap.size w1 w1.drew := (Below.refl _ _).drew
      clear hsh O1 HR
      go_upto_region 6 with (fail)
      go_region_with (first
        | (go_at_call 28; refine (HCALL.out _ hRD).mono ?_; rintro e w5 ⟨v5, rfl, hc5, hd5, h5⟩)
        | (go_at_call 23; refine (HCK.out _ h5).mono ?_; rintro e w6 ⟨rfl, h6⟩))
      all_goals (go_wp2_with (fail))
      all_goals go_ret
      all_goals exact ⟨rfl, h6⟩
    · have gN : ¬ (n1 : Int) = 16 := by omega
      clear hl0 hk0 hA0 hl1 hk1 hA1 htab
      by_cases g7 : (300 : Int) < z
      · have gB : ¬ z ≤ 65504 := by omega
        clear g6
        go_enter Tryd.func9, Tryd.ntmps9
        go_wp2_with (fail)
        refine (Stream_no A0 A1 32 c0 n1 c1 z w (by omega)).mono ?_
        rintro e w ⟨rfl, rfl⟩
        go_wp2_with (fail)
        refine (refused_any none 0 0 2 2 true w (by decide)).mono ?_
        rintro e w ⟨rfl, rfl⟩
        go_wp2_with (fail)
        refine (HKN.out w (Below.refl _ _)).mono ?_
        rintro e w1 ⟨rfl, h1⟩
        go_wp2_with (fail)
        go_ret
        exact ⟨rfl, h1⟩
      · clear g6
        go_enter Tryd.func9, Tryd.ntmps9
        go_wp2_with (fail)
        refine (Stream_no A0 A1 32 c0 n1 c1 z w (by omega)).mono ?_
        rintro e w ⟨rfl, rfl⟩
        go_wp2_with (fail)
        refine (refused_any none 0 0 2 2 true w (by decide)).mono ?_
        rintro e w ⟨rfl, rfl⟩
        go_wp2_with (fail)
        refine (HKN.out w (Below.refl _ _)).mono ?_
        rintro e w1 ⟨rfl, h1⟩
        go_wp2_with (fail)
        go_ret
        exact ⟨rfl, h1⟩
  · have gN : ¬ (n0 : Int) = 32 := by omega
    clear hl0 hk0 hA0 hl1 hk1 hA1 htab
    by_cases g7 : (300 : Int) < z
    · have gB : ¬ z ≤ 65504 := by omega
      clear g6
      go_enter Tryd.func9, Tryd.ntmps9
      go_wp2_with (fail)
      refine (Stream_no A0 A1 n0 c0 n1 c1 z w (by omega)).mono ?_
      rintro e w ⟨rfl, rfl⟩
      go_wp2_with (fail)
      refine (refused_any none 0 0 2 2 true w (by decide)).mono ?_
      rintro e w ⟨rfl, rfl⟩
      go_wp2_with (fail)
      refine (HKN.out w (Below.refl _ _)).mono ?_
      rintro e w1 ⟨rfl, h1⟩
      go_wp2_with (fail)
      go_ret
      exact ⟨rfl, h1⟩
    · clear g6
      go_enter Tryd.func9, Tryd.ntmps9
      go_wp2_with (fail)
      refine (Stream_no A0 A1 n0 c0 n1 c1 z w (by omega)).mono ?_
      rintro e w ⟨rfl, rfl⟩
      go_wp2_with (fail)
      refine (refused_any none 0 0 2 2 true w (by decide)).mono ?_
      rintro e w ⟨rfl, rfl⟩
      go_wp2_with (fail)
      refine (HKN.out w (Below.refl _ _)).mono ?_
      rintro e w1 ⟨rfl, h1⟩
      go_wp2_with (fail)
      go_ret
      exact ⟨rfl, h1⟩
end Go.Proofs.YtdjfklllfbenjaaDoor
