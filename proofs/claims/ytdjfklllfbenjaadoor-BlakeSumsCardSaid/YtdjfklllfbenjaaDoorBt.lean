/- The statement BlakeSums: the walk. -/
import Derived.Test.YtdjfklllfbenjaaDoorBr5
import Derived.Test.YtdjfklllfbenjaaDoorBz
import Derived.Deep.RegionWith
namespace Go.Proofs.YtdjfklllfbenjaaDoor
open Go.RowKit

set_option maxRecDepth 100000 in
set_option maxHeartbeats 2000000 in
theorem sums_any (A : Option Addr) (n c : Nat) (ds : List Int) (w : World) (hn : ds.length = n) (hk : PartAt w w.heap.size (.slice A n c) ds) (hA : A = none → c = 0) (htab : Tabs w) :
    Calls Tryd.prog 3 #[.slice A n c] w fun e w' => e = .returned (.bool true) ∧ Below w.heap.size w w' := by
  have HT := Lib.hid htab
  have HK := Lib.hid hk
  have HN := Lib.hid hn
  have HP : Hid (2 ≤ w.heap.size) := Lib.hid htab.lt
  clear htab hk hn
  by_cases g : 400 < n
  · have gI : (400 : Int) < n := by omega
    go_enter Tryd.func3, Tryd.ntmps3
    go_wp2_with (fail)
    refine (known_any w HT.out).mono ?_
    rintro e w1 ⟨rfl, h1⟩
    go_wp2_with (fail)
    go_ret
    exact ⟨rfl, h1⟩
  · have gI : ¬ (400 : Int) < n := by omega
    go_enter Tryd.func3, Tryd.ntmps3
    generalize hp : w.heap.size = p at *
    have HPP := Lib.hid hp
    have HO0 : Hid (Own (w.alloc (.cells #[] 5)) p (.slice (some ⟨p, 0, none⟩) 0 0) []) := Lib.hid (by rw [← hp]; exact Own.new0 w)
    have HB0 : Hid (Below p w (w.alloc (.cells #[] 5))) := Lib.hid (by rw [← hp]; exact Below.new w _)
    have HK1 : Hid (PartAt (w.alloc (.cells #[] 5)) p (.slice A n c) ds) := Lib.hid (PartAt.later (w := w) (by rw [hp]; exact HK.out) (by rw [hp]; exact HB0.out) (by rw [hp]; exact Nat.le_refl _))
    have HS0 : Hid (p ≤ (w.alloc (.cells #[] 5)).heap.size) := Lib.hid (by have := HB0.out.size; rw [hp] at this; exact this)
    go_wp2_with (at_builtin; refine appBs rfl _ _ _ rfl Tryd.underlying22 rfl HO0.out HB0.out HS0.out A n c p ds rfl hA HK1.out HN.out (by simp; omega) ?_; intro v1 w1 h1 h2 h3)
    have HO1 : Hid (Own w1 p v1 ds) := Lib.hid h1
    have HB1 := Lib.hid h2
    have hs1 : p ≤ w1.heap.size := by have := h2.size; rw [hp] at this; exact this
    clear h1 h2 h3 HO0 HB0 HK1 HS0 hp
    obtain ⟨A1, c1, rfl, -⟩ := HO1.out.part
    go_wp2_with (fail)
    refine (sum_any A1 ds.length c1 ds w1 HO1.out.part (by rw [HN.out]; omega) (HT.out.below HB1.out HP.out)).mono ?_
    rintro e w2 ⟨rfl, h2⟩
    have HO2 := Lib.hid (HO1.out.below h2)
    have HB2 := Lib.hid (HB1.out.trans (h2.mono hs1))
    have hs2 : Hid (p ≤ w2.heap.size) := Lib.hid (Nat.le_trans hs1 h2.size)
    have A3 : Hid (U8 (w2.alloc (.cells (u8s z32) 24)) w2.heap.size 24 z32) := Lib.hid (heap_alloc_new w2 _)
    rw [u8s_z32] at A3
    clear h2 hs1 HO1 HB1
    go_upto_region 4 with (refine st32 rfl _ _ rfl w2.heap.size rfl z32 (hashB [] ds) rfl A3.out (hashB_len _ _) rfl ?_)
    have R4 := Lib.hid (U8.setRow (es := hashB [] ds) A3.out)
    have q4 := below_setRow (g := w2.heap.size) (cs := u8s (hashB [] ds)) (Below.new w2 (.cells (u8s z32) 24)) (Nat.le_refl _)
    rw [u8s_z32] at q4
    have O4 := Lib.hid (HO2.out.below q4)
    have B4 := Lib.hid (HB2.out.trans (q4.mono hs2.out))
    clear HO2 HB2 A3
    generalize (w2.alloc (.cells #[.int .u8 0, .int .u8 0, .int .u8 0, .int .u8 0, .int .u8 0, .int .u8 0, .int .u8 0, .int .u8 0, .int .u8 0, .int .u8 0, .int .u8 0, .int .u8 0, .int .u8 0, .int .u8 0, .int .u8 0, .int .u8 0, .int .u8 0, .int .u8 0, .int .u8 0, .int .u8 0, .int .u8 0, .int .u8 0, .int .u8 0, .int .u8 0, .int .u8 0, .int .u8 0, .int .u8 0, .int .u8 0, .int .u8 0, .int .u8 0, .int .u8 0, .int .u8 0] 24)).setRow w2.heap.size (u8s (hashB [] ds)) = W4 at *
    have hgl := R4.out.lt
    generalize w2.heap.size = gg at *
    clear q4
    obtain ⟨s4, hs4⟩ : ∃ z, W4.heap.size = z := ⟨_, rfl⟩
    have HPH : PartAt W4 s4 (.slice (some ⟨gg, 0, none⟩) 32 32) (hashB [] ds) := ⟨_, 32, by rw [hashB_len], by rw [hashB_len]; exact Nat.le_refl _, fun _ => ⟨gg, 0, rfl, by omega, hgl, fun k hk => by rw [Nat.zero_add]; exact R4.out.at_at hk rfl⟩⟩
    have HP0 : Hid (PartAt W4 W4.heap.size (.slice A n c) ds) := Lib.hid (PartAt.later (w := w) (by rw [HPP.out]; exact HK.out) (by rw [HPP.out]; exact B4.out) (by have := B4.out.size; exact this))
    obtain ⟨sh, hsh⟩ : ∃ s, strOfNums (hashB [] ds) = s := ⟨_, rfl⟩
    obtain ⟨sd, hsd⟩ : ∃ s, strOfNums ds = s := ⟨_, rfl⟩
    have HO4' := O4.out.part
    have HKEEP : Hid (∀ w', Below W4.heap.size W4 w' → ((convert 22 9 (.slice (some ⟨gg, 0, none⟩) 32 32)).run Tryd.prog w' = .ok (.string sh) w' ∧ (convert 22 9 (.slice A1 ds.length c1)).run Tryd.prog w' = .ok (.string sd) w' ∧ (convert 22 9 (.slice A n c)).run Tryd.prog w' = .ok (.string sd) w')) := Lib.hid fun w' h => by
      rw [← hsh, ← hsd]
      exact ⟨conv_part (PartAt.later (by rw [hs4]; exact HPH) h h.size), conv_part (PartAt.later HO4' h h.size), conv_part (PartAt.later HP0.out h h.size)⟩
    have HB4s : W4.heap.size ≥ p := by have := B4.out.size; rw [HPP.out] at this; exact this
    have HBK : Hid (∀ w', Below W4.heap.size W4 w' → Below p w w') := Lib.hid fun w' h => B4.out.trans (h.mono HB4s)
    have HCALL : Hid (∀ w', Below W4.heap.size W4 w' → Calls Tryd.prog 16 #[.slice none 0 0, .slice A n c] w' fun e w'' => ∃ v', e = .returned v' ∧ (convert 22 9 v').run Tryd.prog w'' = .ok (.string sh) w'' ∧ (convert 22 9 (.slice (some ⟨gg, 0, none⟩) 32 32)).run Tryd.prog w'' = .ok (.string sh) w'' ∧ (convert 22 9 (.slice A1 ds.length c1)).run Tryd.prog w'' = .ok (.string sd) w'' ∧ (convert 22 9 (.slice A n c)).run Tryd.prog w'' = .ok (.string sd) w'' ∧ Below W4.heap.size W4 w'') := Lib.hid fun w' h => (rhash_any none A 0 0 n c [] ds w' rfl (by omega) (PartAt.nil_ _ _) (PartAt.later HP0.out h h.size) HN.out (by omega) (fun _ => rfl) hA).mono fun e w'' hh => by
      obtain ⟨⟨v', e1, h1⟩, h2⟩ := hh
      have hb := h.trans (h2.mono h.size)
      obtain ⟨k1, k2, k3⟩ := HKEEP.out w'' hb
      exact ⟨v', e1, by rw [← hsh]; exact conv_part h1.part, k1, k2, k3, hb⟩
    have HCK : Hid (∀ w', Below W4.heap.size W4 w' → Calls Tryd.prog 14 #[] w' fun e w'' => e = .returned (.bool true) ∧ Below W4.heap.size W4 w'') := Lib.hid fun w' h => (known_any w' (HT.out.below (HBK.out w' h) HP.out)).mono fun e w'' hh => ⟨hh.1, h.trans (hh.2.mono h.size)⟩
    obtain ⟨kc1, kc2, kc3⟩ := HKEEP.out W4.drew (Below.refl _ _).drew
    have hRD : Below W4.heap.size W4 W4.drew := (Below.refl _ _).drew
    clear HPH HO4' R4 O4 hgl hs4 HK hsh hsd HP0 HN HT HPP
    go_upto_region 5 with (fail)
    go_region_with (first
        | (go_at_call 16; refine (HCALL.out _ hRD).mono ?_; rintro e w5 ⟨v5, rfl, hc5, hd5, ho5, hb5, h5⟩)
        | (go_at_call 14; refine (HCK.out _ h5).mono ?_; rintro e w6 ⟨rfl, h6⟩))
    all_goals (go_wp2_with (fail))
    all_goals go_ret
    all_goals exact ⟨rfl, HBK.out _ h6⟩
end Go.Proofs.YtdjfklllfbenjaaDoor
