/- SealSeals: the walk. -/
import Derived.Test.YtdjfklllfbenjaaDoorEm
import Derived.Deep.RegionWith
namespace Go.Proofs.YtdjfklllfbenjaaDoor
open Go.RowKit

set_option maxRecDepth 100000 in
set_option maxHeartbeats 8000000 in
theorem seals_any (A0 A1 A2 : Option Addr) (n0 c0 n1 c1 n2 c2 : Nat) (kd nd pd : List Int) (w : World) (hl0 : kd.length = n0) (hk0 : PartAt w w.heap.size (.slice A0 n0 c0) kd) (hA0 : A0 = none → c0 = 0) (hl1 : nd.length = n1) (hk1 : PartAt w w.heap.size (.slice A1 n1 c1) nd) (hA1 : A1 = none → c1 = 0) (hl2 : pd.length = n2) (hk2 : PartAt w w.heap.size (.slice A2 n2 c2) pd) (hA2 : A2 = none → c2 = 0) (htab : Tabs w) :
    Calls Tryd.prog 10 #[.slice A0 n0 c0, .slice A1 n1 c1, .slice A2 n2 c2] w fun e w' => e = .returned (.bool true) ∧ Below w.heap.size w w' := by
  have HKN : Hid (∀ w', Below w.heap.size w w' → Calls Tryd.prog 23 #[] w' fun e w'' => e = .returned (.bool true) ∧ Below w.heap.size w w'') := Lib.hid fun w' h => (sknown_any w' (htab.below h htab.lt)).mono fun e w'' hh => ⟨hh.1, h.trans (hh.2.mono h.size)⟩
  by_cases g1 : 100 < n0
  · have gI : (100 : Int) < n0 := by omega
    clear hl0 hk0 hA0 hl1 hk1 hA1 hl2 hk2 hA2 htab g1
    go_enter Tryd.func10, Tryd.ntmps10
    go_wp2_with (fail)
    refine (HKN.out w (Below.refl _ _)).mono ?_
    rintro e w1 ⟨rfl, h1⟩
    go_wp2_with (fail)
    go_ret
    exact ⟨rfl, h1⟩
  by_cases g2 : 100 < n1
  · have gI : ¬ (100 : Int) < n0 := by omega
    have gJ : (100 : Int) < n1 := by omega
    clear hl0 hk0 hA0 hl1 hk1 hA1 hl2 hk2 hA2 htab g1 g2
    go_enter Tryd.func10, Tryd.ntmps10
    go_wp2_with (fail)
    refine (HKN.out w (Below.refl _ _)).mono ?_
    rintro e w1 ⟨rfl, h1⟩
    go_wp2_with (fail)
    go_ret
    exact ⟨rfl, h1⟩
  by_cases g3 : 300 < n2
  · have gI : ¬ (100 : Int) < n0 := by omega
    have gJ : ¬ (100 : Int) < n1 := by omega
    have gK : (300 : Int) < n2 := by omega
    clear hl0 hk0 hA0 hl1 hk1 hA1 hl2 hk2 hA2 htab g1 g2 g3
    go_enter Tryd.func10, Tryd.ntmps10
    go_wp2_with (fail)
    refine (HKN.out w (Below.refl _ _)).mono ?_
    rintro e w1 ⟨rfl, h1⟩
    go_wp2_with (fail)
    go_ret
    exact ⟨rfl, h1⟩
  have gI : ¬ (100 : Int) < n0 := by omega
  have gJ : ¬ (100 : Int) < n1 := by omega
  have gK : ¬ (300 : Int) < n2 := by omega
  have OE : Hid (Own (w.alloc (.cells #[] 5)) w.heap.size (.slice (some ⟨w.heap.size, 0, none⟩) 0 0) []) := Lib.hid (Own.new0 w)
  have BE : Hid (Below w.heap.size w (w.alloc (.cells #[] 5))) := Lib.hid (Below.new w _)
  have PB := Lib.hid (hk2.later BE.out BE.out.size)
  have L2 := Lib.hid hl2
  have X2 := Lib.hid hA2
  have HK0 := Lib.hid hk0
  have HK1 := Lib.hid hk1
  have HK2 := Lib.hid hk2
  have L0 := Lib.hid hl0
  have L1 := Lib.hid hl1
  have X0 := Lib.hid hA0
  have X1 := Lib.hid hA1
  have HT := Lib.hid htab
  have Z2 : Hid (2 ≤ w.heap.size) := Lib.hid htab.lt
  have H300 := Lib.hid g3
  clear hl0 hk0 hA0 hl1 hk1 hA1 hl2 hk2 hA2 htab g1 g2 g3
  go_enter Tryd.func10, Tryd.ntmps10
  go_upto_region 4 with (at_builtin; refine appBs rfl _ _ _ rfl Tryd.underlying22 rfl OE.out BE.out BE.out.size A2 n2 c2 (w.alloc (.cells #[] 5)).heap.size pd rfl X2.out PB.out L2.out (by simp; have := H300.out; omega) ?_; intro v1 w1 o1 b1 k1)
  rw [List.nil_append] at o1
  have O1 := Lib.hid o1
  have B1 := Lib.hid b1
  obtain ⟨A3, c3, rfl, -⟩ := o1.shape
  rw [L2.out] at O1 ⊢
  clear o1 b1 k1 OE BE PB
  by_cases g4 : n0 = 32
  · by_cases g5 : n1 = 16
    · subst g4 g5
      have HC := Lib.hid (Seal_ok A0 A1 A3 c0 c1 n2 c3 kd nd pd w1 L0.out (HK0.out.later B1.out B1.out.size) L1.out (HK1.out.later B1.out B1.out.size) L2.out O1.out.part (by have := H300.out; omega) (HT.out.below B1.out Z2.out))
      clear gI gJ gK
      go_wp2_with (fail)
      refine HC.out.mono ?_
      rintro e w2 ⟨⟨v2, rfl, o2⟩, b2⟩
      have O2 := Lib.hid o2
      have O12 := Lib.hid (O1.out.below b2)
      have B2 := Lib.hid (B1.out.trans (b2.mono B1.out.size))
      clear o2 b2 HC O1
      obtain ⟨sh, hsh⟩ : ∃ t, strOfNums (sealL kd nd pd) = t := ⟨_, rfl⟩
      obtain ⟨sp, hsp⟩ : ∃ t, strOfNums pd = t := ⟨_, rfl⟩
      have HP2 := Lib.hid (HK2.out.later B2.out B2.out.size)
      have HKEEP : Hid (∀ w', Below w2.heap.size w2 w' → ((convert 22 9 v2).run Tryd.prog w' = .ok (.string sh) w' ∧ (convert 22 9 (.slice A3 n2 c3)).run Tryd.prog w' = .ok (.string sp) w' ∧ (convert 22 9 (.slice A2 n2 c2)).run Tryd.prog w' = .ok (.string sp) w')) := Lib.hid fun w' h => by
        rw [← hsh, ← hsp]
        exact ⟨conv_part (O2.out.below h).part, conv_part (O12.out.below h).part, conv_part (HP2.out.later h h.size)⟩
      obtain ⟨k1, k2, k3⟩ := HKEEP.out w2.drew (Below.refl _ _).drew
      have HCALL : Hid (∀ w', Below w2.heap.size w2 w' → Calls Tryd.prog 30 #[.slice A0 32 c0, .slice A1 16 c1, .slice A2 n2 c2] w' fun e w'' => ∃ v', e = .returned v' ∧ (convert 22 9 v').run Tryd.prog w'' = .ok (.string sh) w'' ∧ (convert 22 9 v2).run Tryd.prog w'' = .ok (.string sh) w'' ∧ (convert 22 9 (.slice A3 n2 c3)).run Tryd.prog w'' = .ok (.string sp) w'' ∧ (convert 22 9 (.slice A2 n2 c2)).run Tryd.prog w'' = .ok (.string sp) w'' ∧ Below w2.heap.size w2 w'') := Lib.hid fun w' h => (rseal_any A0 A1 A2 32 c0 16 c1 n2 c2 kd nd pd w' L0.out (by omega) X0.out (HK0.out.later (B2.out.trans (h.mono B2.out.size)) (Nat.le_trans B2.out.size h.size)) L1.out (by omega) X1.out (HK1.out.later (B2.out.trans (h.mono B2.out.size)) (Nat.le_trans B2.out.size h.size)) L2.out (by have := H300.out; omega) (HP2.out.later h h.size)).mono fun e w'' hh => by
        obtain ⟨⟨v', e1, h1⟩, h2⟩ := hh
        have hb := h.trans (h2.mono h.size)
        obtain ⟨q1, q2, q3⟩ := HKEEP.out w'' hb
        exact ⟨_, e1, by rw [← hsh]; exact conv_part h1.part, q1, q2, q3, hb⟩
      have HCK : Hid (∀ w', Below w2.heap.size w2 w' → Calls Tryd.prog 23 #[] w' fun e w'' => e = .returned (.bool true) ∧ Below w.heap.size w w'') := Lib.hid fun w' h => HKN.out w' (B2.out.trans (h.mono B2.out.size))
      have hRD : Below w2.heap.size w2 w2.drew := (Below.refl _ _).drew
      clear hsh hsp O2 O12 HP2 HK0 HK1 HK2
      go_upto_region 7 with (fail)
      go_region_with (first
        | (go_at_call 30; refine (HCALL.out _ hRD).mono ?_; rintro e w5 ⟨v5, rfl, hc5, hd5, ho5, hb5, h5⟩)
        | (go_at_call 23; refine (HCK.out _ h5).mono ?_; rintro e w6 ⟨rfl, h6⟩))
      all_goals (go_wp2_with (fail))
      all_goals go_ret
      all_goals exact ⟨rfl, h6⟩
    · have gN : ¬ (n1 : Int) = 16 := by omega
      subst g4
      clear HK0 HK1 HK2 O1
      go_wp2_with (fail)
      refine (Seal_no A0 A1 A3 32 c0 n1 c1 n2 c3 w1 (by omega)).mono ?_
      rintro e w1 ⟨rfl, rfl⟩
      go_wp2_with (fail)
      refine (refused_any none 0 0 2 2 true w1 (by decide)).mono ?_
      rintro e w1 ⟨rfl, rfl⟩
      go_wp2_with (fail)
      refine (HKN.out w1 B1.out).mono ?_
      rintro e w2 ⟨rfl, h2⟩
      go_wp2_with (fail)
      go_ret
      exact ⟨rfl, h2⟩
  · have gN : ¬ (n0 : Int) = 32 := by omega
    clear HK0 HK1 HK2 O1
    go_wp2_with (fail)
    refine (Seal_no A0 A1 A3 n0 c0 n1 c1 n2 c3 w1 (by omega)).mono ?_
    rintro e w1 ⟨rfl, rfl⟩
    go_wp2_with (fail)
    refine (refused_any none 0 0 2 2 true w1 (by decide)).mono ?_
    rintro e w1 ⟨rfl, rfl⟩
    go_wp2_with (fail)
    refine (HKN.out w1 B1.out).mono ?_
    rintro e w2 ⟨rfl, h2⟩
    go_wp2_with (fail)
    go_ret
    exact ⟨rfl, h2⟩
end Go.Proofs.YtdjfklllfbenjaaDoor
