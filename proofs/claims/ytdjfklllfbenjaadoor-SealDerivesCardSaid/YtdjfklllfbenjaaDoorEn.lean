/- SealDerives: the walk. -/
import Derived.Test.YtdjfklllfbenjaaDoorEm
import Derived.Deep.RegionWith
namespace Go.Proofs.YtdjfklllfbenjaaDoor
open Go.RowKit

set_option maxRecDepth 100000 in
set_option maxHeartbeats 8000000 in
theorem derives_any (A0 : Option Addr) (n0 c0 : Nat) (kd : List Int) (s : ByteArray) (w : World) (hl0 : kd.length = n0) (hk0 : PartAt w w.heap.size (.slice A0 n0 c0) kd) (hA0 : A0 = none → c0 = 0) (htab : Tabs w) :
    Calls Tryd.prog 8 #[.slice A0 n0 c0, .string s] w fun e w' => e = .returned (.bool true) ∧ Below w.heap.size w w' := by
  have HKN : Hid (∀ w', Below w.heap.size w w' → Calls Tryd.prog 23 #[] w' fun e w'' => e = .returned (.bool true) ∧ Below w.heap.size w w'') := Lib.hid fun w' h => (sknown_any w' (htab.below h htab.lt)).mono fun e w'' hh => ⟨hh.1, h.trans (hh.2.mono h.size)⟩
  by_cases g1 : 100 < n0
  · have gI : (100 : Int) < n0 := by omega
    clear hl0 hk0 hA0 htab g1
    go_enter Tryd.func8, Tryd.ntmps8
    go_wp2_with (fail)
    refine (HKN.out w (Below.refl _ _)).mono ?_
    rintro e w1 ⟨rfl, h1⟩
    go_wp2_with (fail)
    go_ret
    exact ⟨rfl, h1⟩
  by_cases g2 : 100 < s.size
  · have gI : ¬ (100 : Int) < n0 := by omega
    have gJ : (100 : Int) < s.size := by omega
    clear hl0 hk0 hA0 htab g1 g2
    go_enter Tryd.func8, Tryd.ntmps8
    go_wp2_with (fail)
    refine (HKN.out w (Below.refl _ _)).mono ?_
    rintro e w1 ⟨rfl, h1⟩
    go_wp2_with (fail)
    go_ret
    exact ⟨rfl, h1⟩
  have gI : ¬ (100 : Int) < n0 := by omega
  have gJ : ¬ (100 : Int) < s.size := by omega
  by_cases g3 : n0 = 32
  · subst g3
    clear g1 gI
    by_cases g4 : s.size < 1
    · have gK : (s.size : Int) < 1 := by omega
      clear hl0 hk0 hA0 htab
      go_enter Tryd.func8, Tryd.ntmps8
      go_wp2_with (fail)
      refine (derive_no A0 32 c0 s w (by omega)).mono ?_
      rintro e w ⟨rfl, rfl⟩
      go_wp2_with (fail)
      refine (refused_any none 0 0 2 2 true w (by decide)).mono ?_
      rintro e w ⟨rfl, rfl⟩
      go_wp2_with (fail)
      refine (HKN.out w (Below.refl _ _)).mono ?_
      rintro e w1 ⟨rfl, h1⟩
      go_wp2_with (fail)
      go_ret
      exact ⟨rfl, h1⟩
    by_cases g5 : 64 < s.size
    · have gK : ¬ (s.size : Int) < 1 := by omega
      have gL : (64 : Int) < s.size := by omega
      clear hl0 hk0 hA0 htab
      go_enter Tryd.func8, Tryd.ntmps8
      go_wp2_with (fail)
      refine (derive_no A0 32 c0 s w (by omega)).mono ?_
      rintro e w ⟨rfl, rfl⟩
      go_wp2_with (fail)
      refine (refused_any none 0 0 2 2 true w (by decide)).mono ?_
      rintro e w ⟨rfl, rfl⟩
      go_wp2_with (fail)
      refine (HKN.out w (Below.refl _ _)).mono ?_
      rintro e w1 ⟨rfl, h1⟩
      go_wp2_with (fail)
      go_ret
      exact ⟨rfl, h1⟩
    have gK : ¬ (s.size : Int) < 1 := by omega
    have gL : ¬ (64 : Int) < s.size := by omega
    have HC := Lib.hid (derive_ok A0 c0 kd s w hl0 hk0 (by omega) (by omega) htab)
    have HK := Lib.hid hk0
    have HL := Lib.hid hl0
    have HA := Lib.hid hA0
    have HSZ : Hid (s.size < 1000000000) := Lib.hid (by omega)
    clear hl0 hk0 hA0 htab g2 g4 g5
    go_enter Tryd.func8, Tryd.ntmps8
    go_wp2_with (fail)
    refine HC.out.mono ?_
    rintro e w1 ⟨⟨g, rfl, p1⟩, b1⟩
    have P1 := Lib.hid p1
    have B1 := Lib.hid b1
    clear p1 b1 HC
    obtain ⟨sh, hsh⟩ : ∃ t, strOfNums (hashB kd (numsOf s)) = t := ⟨_, rfl⟩
    have hcd : (convert 22 9 (.slice (some ⟨g, 0, none⟩) 32 32)).run Tryd.prog w1.drew = .ok (.string sh) w1.drew := by rw [← hsh]; exact conv_part (P1.out.later (Below.refl _ _).drew (Nat.le_refl _))
    have HCALL : Hid (∀ w', Below w1.heap.size w1 w' → Calls Tryd.prog 26 #[.slice A0 32 c0, .string s] w' fun e w'' => ∃ v', e = .returned v' ∧ (convert 22 9 v').run Tryd.prog w'' = .ok (.string sh) w'' ∧ (convert 22 9 (.slice (some ⟨g, 0, none⟩) 32 32)).run Tryd.prog w'' = .ok (.string sh) w'' ∧ Below w1.heap.size w1 w'') := Lib.hid fun w' h => (rderive_any A0 32 c0 kd s w' HL.out (by omega) ((HK.out.later B1.out B1.out.size).later h h.size) HA.out HSZ.out).mono fun e w'' hh => by
      obtain ⟨⟨g', c', e1, h1⟩, h2⟩ := hh
      have hb := h.trans (h2.mono h.size)
      exact ⟨_, e1, by rw [← hsh]; exact conv_part h1.part, by rw [← hsh]; exact conv_part (P1.out.later hb hb.size), hb⟩
    have HCK : Hid (∀ w', Below w1.heap.size w1 w' → Calls Tryd.prog 23 #[] w' fun e w'' => e = .returned (.bool true) ∧ Below w.heap.size w w'') := Lib.hid fun w' h => HKN.out w' (B1.out.trans (h.mono B1.out.size))
    have hRD : Below w1.heap.size w1 w1.drew := (Below.refl _ _).drew
    clear hsh P1
    go_upto_region 6 with (fail)
    go_region_with (first
      | (go_at_call 26; refine (HCALL.out _ hRD).mono ?_; rintro e w5 ⟨v5, rfl, hc5, hd5, h5⟩)
      | (go_at_call 23; refine (HCK.out _ h5).mono ?_; rintro e w6 ⟨rfl, h6⟩))
    all_goals (go_wp2_with (fail))
    all_goals go_ret
    all_goals exact ⟨rfl, h6⟩
  · have gN : ¬ (n0 : Int) = 32 := by omega
    clear hl0 hk0 hA0 htab
    go_enter Tryd.func8, Tryd.ntmps8
    go_wp2_with (fail)
    refine (derive_no A0 n0 c0 s w (by omega)).mono ?_
    rintro e w ⟨rfl, rfl⟩
    go_wp2_with (fail)
    refine (refused_any none 0 0 2 2 true w (by decide)).mono ?_
    rintro e w ⟨rfl, rfl⟩
    go_wp2_with (fail)
    refine (HKN.out w (Below.refl _ _)).mono ?_
    rintro e w1 ⟨rfl, h1⟩
    go_wp2_with (fail)
    go_ret
    exact ⟨rfl, h1⟩
end Go.Proofs.YtdjfklllfbenjaaDoor
