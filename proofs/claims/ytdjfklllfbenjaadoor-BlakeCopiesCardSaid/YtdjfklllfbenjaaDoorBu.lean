/- The statement BlakeKeys: the walk. -/
import Derived.Test.YtdjfklllfbenjaaDoorBr5
import Derived.Test.YtdjfklllfbenjaaDoorBz
import Derived.BigQuiet
import Derived.Deep.RegionHeld3
namespace Go.Proofs.YtdjfklllfbenjaaDoor
open Go.RowKit

/-- A variable that holds 32 bytes, behind a call. -/
theorem arr_new (w : World) (xs : List Int) : U8 ((w.alloc (.cells (u8s z32) 24)).setRow w.heap.size (u8s xs)) w.heap.size 24 xs ∧ Below w.heap.size w ((w.alloc (.cells (u8s z32) 24)).setRow w.heap.size (u8s xs)) ∧ U8 (w.alloc (.cells (u8s z32) 24)) w.heap.size 24 z32 :=
  have h : U8 (w.alloc (.cells (u8s z32) 24)) w.heap.size 24 z32 := heap_alloc_new w _
  ⟨U8.setRow h, below_setRow (Below.new w _) (Nat.le_refl _), h⟩
theorem U8.part32 {w : World} {g : Nat} {xs : List Int} (h : U8 w g 24 xs) (hl : xs.length = 32) : PartAt w w.heap.size (.slice (some ⟨g, 0, none⟩) 32 32) xs :=
  ⟨_, 32, by rw [hl], by omega, fun _ => ⟨g, 0, rfl, Nat.ne_of_lt h.lt, h.lt, fun k hk => by rw [Nat.zero_add]; exact h.at_at hk rfl⟩⟩
theorem Own.but {w w' : World} {B g n c p : Nat} {ds : List Int} (h : Own w B (.slice (some ⟨g, 0, none⟩) n c) ds) (hb : But p w w') (hne : g ≠ p) : Own w' B (.slice (some ⟨g, 0, none⟩) n c) ds := by
  refine ⟨h.1, ?_⟩
  rcases h.2 with ⟨e, _⟩ | ⟨g', cap, cur, e, h1, hg, r⟩
  · simp at e
  · have : g = g' := by simp at e; exact e.1
    subst this
    exact .inr ⟨g, cap, cur, e, h1, (hb.block g hne (Array.getElem?_eq_some_iff.1 hg).1).trans hg, r⟩
theorem PartAt.to {w : World} {p : Nat} {v : Value} {ds : List Int} (h : PartAt w w.heap.size v ds) (hp : w.heap.size ≤ p) : PartAt w p v ds := h.later (Below.refl _ _) hp
theorem PartAt.drewN' {w : World} {p : Nat} {v : Value} {ds : List Int} (h : PartAt w p v ds) (q : Nat) : PartAt (w.drewN q) p v ds := by
  obtain ⟨A, c, e, hle, hA⟩ := h
  refine ⟨A, c, e, hle, fun h0 => ?_⟩
  obtain ⟨b, o, e2, h1, h2, h3⟩ := hA h0
  exact ⟨b, o, e2, h1, h2, h3⟩
theorem Own.shape1' {w : World} {B : Nat} {v : Value} {ds : List Int} (h : Own w B v ds) (h0 : 0 < ds.length) : ∃ g c, v = .slice (some ⟨g, 0, none⟩) ds.length c := by
  rcases h.2 with ⟨rfl, h1⟩ | ⟨g', cap, cur, rfl, _⟩
  · omega
  · exact ⟨g', cap, rfl⟩
theorem Own.base' {w : World} {B g n c : Nat} {ds : List Int} (h : Own w B (.slice (some ⟨g, 0, none⟩) n c) ds) : B ≤ g ∧ g < w.heap.size := by
  rcases h.2 with ⟨e, _⟩ | ⟨g', cap, cur, e, hb, hg, _⟩
  · simp at e
  · have : g = g' := by simp at e; exact e.1
    subst this
    exact ⟨hb, (Array.getElem?_eq_some_iff.1 hg).1⟩
theorem hash_eq (kd bd : List Int) : bytesL (hashS (hk0 kd.length) (kmsg kd ++ bd)) = hashB kd bd := rfl
set_option maxRecDepth 100000 in
set_option maxHeartbeats 8000000 in
theorem keys_any (A0 A1 : Option Addr) (n0 c0 n1 c1 : Nat) (kd bd : List Int) (w : World) (hl0 : kd.length = n0) (hk0' : PartAt w w.heap.size (.slice A0 n0 c0) kd) (hA0 : A0 = none → c0 = 0) (hl1 : bd.length = n1) (hk1 : PartAt w w.heap.size (.slice A1 n1 c1) bd) (hA1 : A1 = none → c1 = 0) (htab : Tabs w) :
    Calls Tryd.prog 4 #[.slice A0 n0 c0, .slice A1 n1 c1] w fun e w' => e = .returned (.bool true) ∧ Below w.heap.size w w' := by
  have HKN : Hid (∀ w', Below w.heap.size w w' → Calls Tryd.prog 14 #[] w' fun e w'' => e = .returned (.bool true) ∧ Below w.heap.size w w'') := Lib.hid fun w' h => (known_any w' (htab.below h htab.lt)).mono fun e w'' hh => ⟨hh.1, h.trans (hh.2.mono h.size)⟩
  by_cases g : ¬ (n0 ≤ 100 ∧ n1 ≤ 300)
  · clear hl0 hk0' hl1 hk1 hA0 hA1 htab
    by_cases g1 : n0 ≤ 100
    · have gI : ¬ (100 : Int) < n0 := by omega
      have gJ : (300 : Int) < n1 := by omega
      clear g
      go_enter Tryd.func4, Tryd.ntmps4
      go_wp2_with (fail)
      refine (HKN.out w (Below.refl _ _)).mono ?_
      rintro e w1 ⟨rfl, h1⟩
      go_wp2_with (fail)
      go_ret
      exact ⟨rfl, h1⟩
    · have gI : (100 : Int) < n0 := by omega
      clear g
      go_enter Tryd.func4, Tryd.ntmps4
      go_wp2_with (fail)
      refine (HKN.out w (Below.refl _ _)).mono ?_
      rintro e w1 ⟨rfl, h1⟩
      go_wp2_with (fail)
      go_ret
      exact ⟨rfl, h1⟩
  obtain ⟨g2, g3⟩ := Decidable.not_not.1 g
  clear g
  have gI : ¬ (100 : Int) < n0 := by omega
  have gJ : ¬ (300 : Int) < n1 := by omega
  have HT := Lib.hid htab
  have HK0 := Lib.hid hk0'
  have HK1 := Lib.hid hk1
  have L0 := Lib.hid hl0
  have L1 := Lib.hid hl1
  have X0 := Lib.hid hA0
  have X1 := Lib.hid hA1
  have Z2 : Hid (2 ≤ w.heap.size) := Lib.hid htab.lt
  have HC1 := Lib.hid (keyed_any A0 A1 n0 c0 n1 c1 kd bd w hl0 hk0' hk1 (by omega) htab)
  clear hl0 hk0' hl1 hk1 hA0 hA1 htab
  obtain ⟨kh, hkh⟩ : ∃ kh, keyedH kd bd = kh := ⟨_, rfl⟩
  have HKH := Lib.hid hkh
  have HKL : Hid (kh.length = 32) := Lib.hid (by rw [← hkh]; exact keyedH_len _ _)
  obtain ⟨ke, hke⟩ : ∃ ke, keyedE n0 = ke := ⟨_, rfl⟩
  have HKE := Lib.hid hke
  rw [hkh, hke] at HC1
  clear hkh hke
  by_cases g4 : 32 < n0
  · have gK : (32 : Int) < n0 := by omega
    have hke2 : ke = 2 := by rw [← HKE.out]; exact if_pos (.inr g4)
    have hkh2 : kh = z32 := by rw [← HKH.out]; unfold keyedH; rw [L0.out, if_pos (.inr g4)]
    subst hke2 hkh2
    have heq := eq_same z32 z32_bytes rfl
    go_enter Tryd.func4, Tryd.ntmps4
    go_wp2_with (fail)
    refine HC1.out.mono ?_
    rintro e w2 ⟨rfl, b2⟩
    obtain ⟨r1, r2, r3⟩ := arr_new w2 z32
    have R1 := Lib.hid r1
    have R3 := Lib.hid r3
    have B3 := Lib.hid (b2.trans (r2.mono b2.size))
    rw [u8s_z32] at R3 R1 B3
    clear r1 r2 r3 b2 HC1
    go_upto_region 4 with (refine st32 rfl _ _ rfl w2.heap.size rfl z32 z32 rfl R3.out rfl rfl ?_)
    rw [← u8s_z32] at R1 B3 ⊢
    generalize (w2.alloc (.cells (u8s z32) 24)).setRow w2.heap.size (u8s z32) = w3 at *
    generalize w2.heap.size = r at *
    clear R3
    go_wp2_with (fail)
    refine (new_no A0 n0 c0 w3 g4).mono ?_
    rintro e w4 ⟨rfl, rfl⟩
    go_wp2_with (first | (refine ld32g (by rfl) _ rfl r rfl z32 R1.out rfl ?_) | (refine buildG (by rfl) _ _ rfl (u8s z32) (by kernel_rfl) ?_))
    refine (HKN.out w4 B3.out).mono ?_
    rintro e w5 ⟨rfl, h5⟩
    go_wp2_with (fail)
    go_ret
    exact ⟨rfl, h5⟩
  have gK : ¬ (32 : Int) < n0 := by omega
  go_enter Tryd.func4, Tryd.ntmps4
  go_wp2_with (fail)
  refine HC1.out.mono ?_
  rintro e w2 ⟨rfl, b2⟩
  obtain ⟨r1, r2, r3⟩ := arr_new w2 kh
  have R1 := Lib.hid r1
  have R3 := Lib.hid r3
  have B3 := Lib.hid (b2.trans (r2.mono b2.size))
  rw [u8s_z32] at R3 R1 B3
  clear r1 r2 r3 b2 HC1
  go_upto_region 4 with (refine st32 rfl _ _ rfl w2.heap.size rfl z32 kh rfl R3.out HKL.out rfl ?_)
  generalize (w2.alloc (.cells #[.int .u8 0, .int .u8 0, .int .u8 0, .int .u8 0, .int .u8 0, .int .u8 0, .int .u8 0, .int .u8 0, .int .u8 0, .int .u8 0, .int .u8 0, .int .u8 0, .int .u8 0, .int .u8 0, .int .u8 0, .int .u8 0, .int .u8 0, .int .u8 0, .int .u8 0, .int .u8 0, .int .u8 0, .int .u8 0, .int .u8 0, .int .u8 0, .int .u8 0, .int .u8 0, .int .u8 0, .int .u8 0, .int .u8 0, .int .u8 0, .int .u8 0, .int .u8 0] 24)).setRow w2.heap.size (u8s kh) = w3 at *
  generalize w2.heap.size = r at *
  have hr : r < w3.heap.size := R1.out.lt
  clear R3
  have HC4 := Lib.hid (new_any A0 n0 c0 kd w3 L0.out (by omega) (HK0.out.later B3.out B3.out.size) (HT.out.below B3.out Z2.out))
  go_wp2_with (fail)
  refine HC4.out.mono ?_
  rintro e w4 ⟨⟨gc, x, rfl, hgc, hx, hi, -⟩, b4⟩
  have HX4 := Lib.hid hx
  have HI4 := Lib.hid hi
  have R4 := Lib.hid (R1.out.below b4 hr)
  have B4 := Lib.hid (B3.out.trans (b4.mono B3.out.size))
  have G1 : Hid (w.heap.size ≤ gc) := Lib.hid (Nat.le_trans B3.out.size hgc)
  have G2 : Hid (r ≠ gc) := Lib.hid (by omega)
  clear hx hi b4 HC4 hgc hr R1 B3
  have HC5 := Lib.hid (rhash_any A0 A1 n0 c0 n1 c1 kd bd w4 L0.out (by omega) (HK0.out.later B4.out B4.out.size) (HK1.out.later B4.out B4.out.size) L1.out (by omega) X0.out X1.out)
  go_wp2_with (fail)
  refine HC5.out.mono ?_
  rintro e w5 ⟨⟨vw, rfl, ow⟩, b5⟩
  obtain ⟨gw, cw, rfl⟩ := ow.shape1' (by rw [hashB_len]; omega)
  rw [hashB_len] at ow ⊢
  have OW5 := Lib.hid ow
  have hgw := ow.base'
  have HX5 := Lib.hid (HX4.out.below b5 HX4.out.lt)
  have R5 := Lib.hid (R4.out.below b5 R4.out.lt)
  have B5 := Lib.hid (B4.out.trans (b5.mono B4.out.size))
  have G3 : Hid (gw ≠ gc) := Lib.hid (by have := HX4.out.lt; omega)
  clear ow b5 HC5 hgw HX4 R4 B4
  have HC6 := Lib.hid (write_any HX5.out HI4.out A1 n1 c1 bd (HK1.out.later B5.out G1.out) (Nat.le_trans Z2.out G1.out) (HT.out.below B5.out Z2.out) (by have := kmsg_len kd (by rw [L0.out]; omega); have := L1.out; omega))
  go_wp2_with (fail)
  refine HC6.out.mono ?_
  rintro e w6 ⟨rfl, ⟨x', hx', hi', -⟩, b6⟩
  have HX6 := Lib.hid hx'
  have HI6 := Lib.hid hi'
  have OW6 := Lib.hid (OW5.out.but b6 G3.out)
  have R6 := Lib.hid (R5.out.but b6 G2.out)
  have B6 := Lib.hid (Go.Proofs.YtdjfklllfbenjaaDoor.Below.but B5.out b6 G1.out)
  clear hx' hi' b6 HC6 HX5 HI4 OW5 R5 B5
  have HC7 := Lib.hid (msum_any HX6.out HI6.out (HT.out.below B6.out Z2.out) (by rw [List.length_append]; have := kmsg_len kd (by rw [L0.out]; omega); have := L1.out; omega))
  rw [← L0.out, hash_eq] at HC7
  go_wp2_with (fail)
  refine HC7.out.mono ?_
  rintro e w7 ⟨rfl, b7⟩
  obtain ⟨q1, q2, q3⟩ := arr_new w7 (hashB kd bd)
  have hl := hashB_len kd bd
  have OW := Lib.hid ((OW6.out.below b7).below q2)
  have RH := Lib.hid ((R6.out.below b7 R6.out.lt).below q2 (R6.out.below b7 R6.out.lt).lt)
  have RS := Lib.hid q1
  have RN := Lib.hid q3
  have BB := Lib.hid ((B6.out.trans (b7.mono B6.out.size)).trans (q2.mono (Nat.le_trans B6.out.size b7.size)))
  clear q1 q2 q3 b7 HC7 HX6 HI6 OW6 R6 B6
  obtain ⟨W8, hW8⟩ : ∃ W8, (w7.alloc (.cells (u8s z32) 24)).setRow w7.heap.size (u8s (hashB kd bd)) = W8 := ⟨_, rfl⟩
  rw [hW8] at OW RH RS BB
  rw [u8s_z32] at RN hW8
  obtain ⟨hh, hhh⟩ : ∃ hh, hashB kd bd = hh := ⟨_, rfl⟩
  rw [hhh] at hW8 OW RS hl ⊢
  go_upto_region 12 with (refine st32 rfl _ _ rfl w7.heap.size rfl z32 hh rfl RN.out hl rfl ?_)
  clear RN hW8
  generalize w7.heap.size = s at *
  obtain ⟨sh, hsh⟩ : ∃ s, strOfNums hh = s := ⟨_, rfl⟩
  have hc1 : ∀ q, (convert 22 9 (.slice (some ⟨s, 0, none⟩) 32 32)).run Tryd.prog (W8.drewN q) = .ok (.string sh) (W8.drewN q) := fun q => by rw [← hsh]; exact conv_part ((RS.out.part32 hl).drewN' q)
  have hc2 : ∀ q, (convert 22 9 (.slice (some ⟨gw, 0, none⟩) 32 cw)).run Tryd.prog (W8.drewN q) = .ok (.string sh) (W8.drewN q) := fun q => by rw [← hsh]; exact conv_part (OW.out.part.drewN' q)
  have HL := Lib.hid hl
  clear hl
  go_quiet (fail)
  clear hc1 hc2
  have q9 : Below W8.heap.size W8 (W8.drewN nq) := ⟨rfl, rfl, rfl, Nat.le_refl _, fun _ _ => rfl⟩
  have OW9 := Lib.hid (OW.out.below q9)
  have RH9 := Lib.hid (RH.out.below q9 RH.out.lt)
  have B9 := Lib.hid (BB.out.trans (q9.mono BB.out.size))
  clear q9 OW RH RS BB
  generalize W8.drewN nq = W9 at *
  by_cases g5 : n0 = 0
  · have gL : (n0 : Int) = 0 := by omega
    have hke2 : ke = 2 := by rw [← HKE.out]; exact if_pos (.inl g5)
    have hkh2 : kh = z32 := by rw [← HKH.out]; unfold keyedH; rw [L0.out, if_pos (.inl g5)]
    subst hke2 hkh2
    have heq := eq_same z32 z32_bytes rfl
    go_wp2_with (first | (refine ld32g (by rfl) _ rfl r rfl z32 RH9.out rfl ?_) | (refine buildG (by rfl) _ _ rfl (u8s z32) (by kernel_rfl) ?_))
    refine (HKN.out W9 B9.out).mono ?_
    rintro e w5 ⟨rfl, h5⟩
    go_wp2_with (fail)
    go_ret
    exact ⟨rfl, h5⟩
  · have gL : ¬ (n0 : Int) = 0 := by omega
    have hke2 : ke = 0 := by rw [← HKE.out]; exact if_neg (by omega)
    have hkh2 : kh = hh := by rw [← HKH.out, ← hhh]; unfold keyedH; rw [L0.out, if_neg (by omega)]
    subst hke2 hkh2
    have HKEEP : Hid (∀ w', Below W9.heap.size W9 w' → ((convert 22 9 (.slice (some ⟨r, 0, none⟩) 32 32)).run Tryd.prog w' = .ok (.string sh) w' ∧ (convert 22 9 (.slice (some ⟨gw, 0, none⟩) 32 cw)).run Tryd.prog w' = .ok (.string sh) w')) := Lib.hid fun w' h => by
      rw [← hsh]
      exact ⟨conv_part ((RH9.out.part32 HL.out).later h h.size), conv_part (OW9.out.part.later h h.size)⟩
    obtain ⟨kc1, kc2⟩ := HKEEP.out W9.drew (Below.refl _ _).drew
    have HCK : Hid (∀ w', Below W9.heap.size W9 w' → Calls Tryd.prog 14 #[] w' fun e w'' => e = .returned (.bool true) ∧ Below w.heap.size w w'' ∧ Below W9.heap.size W9 w'') := Lib.hid fun w' h => (known_any w' (HT.out.below (B9.out.trans (h.mono B9.out.size)) Z2.out)).mono fun e w'' hh => ⟨hh.1, (B9.out.trans (h.mono B9.out.size)).trans (hh.2.mono (Nat.le_trans B9.out.size h.size)), h.trans (hh.2.mono h.size)⟩
    have hRD : Below W9.heap.size W9 W9.drew := (Below.refl _ _).drew
    clear hsh hhh HL OW9 RH9 B9
    go_upto_region 16 with (fail)
    go_region_held3 (fun w' => (convert 22 9 (.slice (some ⟨r, 0, none⟩) 32 32)).run Tryd.prog w' = .ok (.string sh) w' ∧ (convert 22 9 (.slice (some ⟨gw, 0, none⟩) 32 cw)).run Tryd.prog w' = .ok (.string sh) w') (first | exact ⟨kc1, kc2⟩ | assumption | exact HKEEP.out _ h6)
      (first | (go_at_call 14; refine (HCK.out _ hRD).mono ?_; rintro e w6 ⟨rfl, h5, h6⟩))
    all_goals (go_wp2_with (fail))
    all_goals go_ret
    all_goals exact ⟨rfl, h5⟩
end Go.Proofs.YtdjfklllfbenjaaDoor
