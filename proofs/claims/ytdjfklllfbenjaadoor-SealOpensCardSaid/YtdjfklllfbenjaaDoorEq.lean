/- SealOpens: the walk. -/
import Derived.Test.YtdjfklllfbenjaaDoorEm
import Derived.Deep.RegionWith
namespace Go.Proofs.YtdjfklllfbenjaaDoor
open Go.RowKit

set_option maxRecDepth 100000 in
set_option maxHeartbeats 8000000 in
theorem opens_any (A0 A1 : Option Addr) (n0 c0 n1 c1 : Nat) (kd bd : List Int) (w : World) (hl0 : kd.length = n0) (hk0 : PartAt w w.heap.size (.slice A0 n0 c0) kd) (hA0 : A0 = none → c0 = 0) (hl1 : bd.length = n1) (hk1 : PartAt w w.heap.size (.slice A1 n1 c1) bd) (hb1 : Bys8 bd) (hA1 : A1 = none → c1 = 0) (htab : Tabs w) :
    Calls Tryd.prog 11 #[.slice A0 n0 c0, .slice A1 n1 c1] w fun e w' => e = .returned (.bool true) ∧ Below w.heap.size w w' := by
  have HKN : Hid (∀ w', Below w.heap.size w w' → Calls Tryd.prog 23 #[] w' fun e w'' => e = .returned (.bool true) ∧ Below w.heap.size w w'') := Lib.hid fun w' h => (sknown_any w' (htab.below h htab.lt)).mono fun e w'' hh => ⟨hh.1, h.trans (hh.2.mono h.size)⟩
  by_cases g1 : 100 < n0
  · have gI : (100 : Int) < n0 := by omega
    clear hl0 hk0 hA0 hl1 hk1 hb1 hA1 htab g1
    go_enter Tryd.func11, Tryd.ntmps11
    go_wp2_with (fail)
    refine (HKN.out w (Below.refl _ _)).mono ?_
    rintro e w1 ⟨rfl, h1⟩
    go_wp2_with (fail)
    go_ret
    exact ⟨rfl, h1⟩
  by_cases g2 : 300 < n1
  · have gI : ¬ (100 : Int) < n0 := by omega
    have gJ : (300 : Int) < n1 := by omega
    clear hl0 hk0 hA0 hl1 hk1 hb1 hA1 htab g1 g2
    go_enter Tryd.func11, Tryd.ntmps11
    go_wp2_with (fail)
    refine (HKN.out w (Below.refl _ _)).mono ?_
    rintro e w1 ⟨rfl, h1⟩
    go_wp2_with (fail)
    go_ret
    exact ⟨rfl, h1⟩
  have gI : ¬ (100 : Int) < n0 := by omega
  have gJ : ¬ (300 : Int) < n1 := by omega
  by_cases g3 : n0 = 32
  · subst g3
    have HC := Lib.hid (Open_any A0 A1 c0 n1 c1 kd bd w hl0 hk0 hl1 hk1 hb1 htab)
    have HR : Hid (∀ w', Below w.heap.size w w' → Calls Tryd.prog 32 #[.slice A0 32 c0, .slice A1 n1 c1] w' fun e w'' => (∃ v, e = .returned (.tuple #[v, .int .i64 (openE kd bd)]) ∧ Own w'' w'.heap.size v (openP kd bd)) ∧ Below w'.heap.size w' w'') := Lib.hid fun w' h => ropen_any A0 A1 32 c0 n1 c1 kd bd w' hl0 (by omega) hA0 (hk0.later h h.size) hl1 (hk1.later h h.size) hb1
    clear hl0 hk0 hA0 hl1 hk1 hb1 hA1 htab g1 gI g2
    go_enter Tryd.func11, Tryd.ntmps11
    go_wp2_with (fail)
    refine HC.out.mono ?_
    rintro e w1 ⟨⟨v1, rfl, o1⟩, b1⟩
    have O1 := Lib.hid o1
    have B1 := Lib.hid b1
    clear o1 b1 HC
    go_wp2_with (fail)
    refine (HR.out w1 B1.out).mono ?_
    rintro e w2 ⟨⟨v2, rfl, o2⟩, b2⟩
    have B2 := Lib.hid (B1.out.trans (b2.mono B1.out.size))
    obtain ⟨sh, hsh⟩ : ∃ t, strOfNums (openP kd bd) = t := ⟨_, rfl⟩
    have k1 : (convert 22 9 v1).run Tryd.prog w2 = .ok (.string sh) w2 := by rw [← hsh]; exact conv_part (O1.out.below b2).part
    have k2 : (convert 22 9 v2).run Tryd.prog w2 = .ok (.string sh) w2 := by rw [← hsh]; exact conv_part o2.part
    clear o2 b2 hsh HR O1
    generalize openE kd bd = ee at *
    go_wp2_with (fail)
    refine (HKN.out w2 B2.out).mono ?_
    rintro e w3 ⟨rfl, h3⟩
    go_wp2_with (fail)
    go_ret
    exact ⟨rfl, h3⟩
  · have gN : ¬ (n0 : Int) = 32 := by omega
    clear hl0 hk0 hA0 hl1 hk1 hb1 hA1 htab
    go_enter Tryd.func11, Tryd.ntmps11
    go_wp2_with (fail)
    refine (Open_key A0 A1 n0 c0 n1 c1 w g3).mono ?_
    rintro e w ⟨rfl, rfl⟩
    go_wp2_with (fail)
    refine (refused_any none 0 0 2 2 true w (by decide)).mono ?_
    rintro e w ⟨rfl, rfl⟩
    go_wp2_with (fail)
    refine (HKN.out w (Below.refl _ _)).mono ?_
    rintro e w1 ⟨rfl, h1⟩
    go_wp2_with (fail)
    go_ret
    exact ⟨rfl, h1⟩
end Go.Proofs.YtdjfklllfbenjaaDoor
