/- BlakeCopies: the walk. -/
import Derived.Test.YtdjfklllfbenjaaDoorBx0
namespace Go.Proofs.YtdjfklllfbenjaaDoor
open Go.RowKit

set_option maxRecDepth 100000 in
set_option maxHeartbeats 3000000 in
theorem copies_any (A0 A1 A2 A3 : Option Addr) (n0 c0 n1 c1 n2 c2 n3 c3 : Nat) (kd sd od td : List Int) (w : World) (hl0 : kd.length = n0) (hk0' : PartAt w w.heap.size (.slice A0 n0 c0) kd) (hA0 : A0 = none → c0 = 0) (hl1 : sd.length = n1) (hk1 : PartAt w w.heap.size (.slice A1 n1 c1) sd) (hA1 : A1 = none → c1 = 0)
    (hl2 : od.length = n2) (hk2 : PartAt w w.heap.size (.slice A2 n2 c2) od) (hA2 : A2 = none → c2 = 0) (hl3 : td.length = n3) (hk3 : PartAt w w.heap.size (.slice A3 n3 c3) td) (hA3 : A3 = none → c3 = 0) (htab : Tabs w) :
    Calls Tryd.prog 7 #[.slice A0 n0 c0, .slice A1 n1 c1, .slice A2 n2 c2, .slice A3 n3 c3] w fun e w' => e = .returned (.bool true) ∧ Below w.heap.size w w' := by
  have HKN : Hid (∀ w', Below w.heap.size w w' → Calls Tryd.prog 14 #[] w' fun e w'' => e = .returned (.bool true) ∧ Below w.heap.size w w'') := Lib.hid fun w' h => (known_any w' (htab.below h htab.lt)).mono fun e w'' hh => ⟨hh.1, h.trans (hh.2.mono h.size)⟩
  by_cases g1 : 32 < n0
  · have gI : (32 : Int) < n0 := by omega
    clear hl0 hk0' hA0 hl1 hk1 hA1 hl2 hk2 hA2 hl3 hk3 hA3 htab
    go_enter Tryd.func7, Tryd.ntmps7
    go_wp2_with (fail)
    refine (HKN.out w (Below.refl _ _)).mono ?_
    rintro e w1 ⟨rfl, h1⟩
    go_wp2_with (fail)
    go_ret
    exact ⟨rfl, h1⟩
  by_cases g2 : 150 < n1
  · have gI : ¬ (32 : Int) < n0 := by omega
    have gJ : (150 : Int) < n1 := by omega
    clear hl0 hk0' hA0 hl1 hk1 hA1 hl2 hk2 hA2 hl3 hk3 hA3 htab
    go_enter Tryd.func7, Tryd.ntmps7
    go_wp2_with (fail)
    refine (HKN.out w (Below.refl _ _)).mono ?_
    rintro e w1 ⟨rfl, h1⟩
    go_wp2_with (fail)
    go_ret
    exact ⟨rfl, h1⟩
  by_cases g3 : 150 < n2
  · have gI : ¬ (32 : Int) < n0 := by omega
    have gJ : ¬ (150 : Int) < n1 := by omega
    have gK : (150 : Int) < n2 := by omega
    clear hl0 hk0' hA0 hl1 hk1 hA1 hl2 hk2 hA2 hl3 hk3 hA3 htab
    go_enter Tryd.func7, Tryd.ntmps7
    go_wp2_with (fail)
    refine (HKN.out w (Below.refl _ _)).mono ?_
    rintro e w1 ⟨rfl, h1⟩
    go_wp2_with (fail)
    go_ret
    exact ⟨rfl, h1⟩
  by_cases g4 : 150 < n3
  · have gI : ¬ (32 : Int) < n0 := by omega
    have gJ : ¬ (150 : Int) < n1 := by omega
    have gK : ¬ (150 : Int) < n2 := by omega
    have gL : (150 : Int) < n3 := by omega
    clear hl0 hk0' hA0 hl1 hk1 hA1 hl2 hk2 hA2 hl3 hk3 hA3 htab
    go_enter Tryd.func7, Tryd.ntmps7
    go_wp2_with (fail)
    refine (HKN.out w (Below.refl _ _)).mono ?_
    rintro e w1 ⟨rfl, h1⟩
    go_wp2_with (fail)
    go_ret
    exact ⟨rfl, h1⟩
  have gI : ¬ (32 : Int) < n0 := by omega
  have gJ : ¬ (150 : Int) < n1 := by omega
  have gK : ¬ (150 : Int) < n2 := by omega
  have gL : ¬ (150 : Int) < n3 := by omega
  have HN : Hid (n0 ≤ 32 ∧ n1 ≤ 150 ∧ n2 ≤ 150 ∧ n3 ≤ 150) := Lib.hid (by omega)
  have HT := Lib.hid htab
  have Z2 : Hid (2 ≤ w.heap.size) := Lib.hid htab.lt
  have P0 := Lib.hid hk0'
  have P1 := Lib.hid hk1
  have P2 := Lib.hid hk2
  have P3 := Lib.hid hk3
  have L0 := Lib.hid hl0
  have L1 := Lib.hid hl1
  have L2 := Lib.hid hl2
  have L3 := Lib.hid hl3
  have X0 := Lib.hid hA0
  have X1 := Lib.hid hA1
  have X2 := Lib.hid hA2
  have X3 := Lib.hid hA3
  have HKM : Hid ((kmsg kd).length ≤ 64) := Lib.hid (kmsg_len kd (by rw [hl0]; omega))
  have HC1 := Lib.hid (new_any A0 n0 c0 kd w hl0 (by omega) hk0' htab)
  clear hl0 hk0' hA0 hl1 hk1 hA1 hl2 hk2 hA2 hl3 hk3 hA3 htab g1 g2 g3 g4
  go_enter Tryd.func7, Tryd.ntmps7
  go_wp2_with (fail)
  clear gI gJ gK gL
  refine HC1.out.mono ?_
  rintro e w1 ⟨⟨ga, x1, rfl, hga, hx, hi, hh⟩, b1⟩
  have GA : Hid (w.heap.size ≤ ga) := Lib.hid hga
  have HA1 := Lib.hid hx
  have B1 := Lib.hid b1
  have HH1 := Lib.hid hh
  have HC2 := Lib.hid (write_any hx hi A1 n1 c1 sd (P1.out.later b1 hga) (Nat.le_trans Z2.out hga) (HT.out.below b1 Z2.out) (by have := HKM.out; have := HN.out; rw [L1.out]; omega))
  clear hga hx hi hh b1 HC1
  go_wp2_with (fail)
  refine HC2.out.mono ?_
  rintro e w2 ⟨rfl, ⟨x2, hx2, hi2, hh2⟩, b2⟩
  have HA2 := Lib.hid hx2
  have HI2 := Lib.hid hi2
  have HH2 := Lib.hid (hh2.trans HH1.out)
  have B2 := Lib.hid (Go.Proofs.YtdjfklllfbenjaaDoor.Below.but B1.out b2 GA.out)
  have HC3 := Lib.hid (copy_any hx2)
  clear hx2 hi2 hh2 b2 HC2 HA1 B1 HH1
  go_wp2_with (fail)
  refine HC3.out.mono ?_
  rintro e w3 ⟨⟨gb, rfl, hgb, hxb⟩, b3⟩
  have HA3 := Lib.hid (HA2.out.below b3 HA2.out.lt)
  have HB3 := Lib.hid hxb
  have B3 := Lib.hid (B2.out.trans (b3.mono B2.out.size))
  have GB : Hid (w.heap.size ≤ gb ∧ ga ≠ gb) := Lib.hid (by have h1 := B2.out.size; have h2 := HA2.out.lt; omega)
  have HC4 := Lib.hid (write_any HA3.out HI2.out A2 n2 c2 od (P2.out.later B3.out GA.out) (Nat.le_trans Z2.out GA.out) (HT.out.below B3.out Z2.out) (by rw [List.length_append, L1.out, L2.out]; have := HKM.out; have := HN.out; omega))
  clear hgb hxb b3 HC3 HA2 B2
  go_wp2_with (fail)
  refine HC4.out.mono ?_
  rintro e w4 ⟨rfl, ⟨x4, hx4, hi4, hh4⟩, b4⟩
  have HA4 := Lib.hid hx4
  have HI4 : Hid (Inv x4 (hk0 n0) (kmsg kd ++ (sd ++ od)) ∧ x4.head = khead n0) := Lib.hid ⟨by rw [List.append_assoc] at hi4; exact hi4, hh4.trans HH2.out⟩
  have HB4 := Lib.hid (HB3.out.but b4 (fun e => GB.out.2 e.symm))
  have B4 := Lib.hid (Go.Proofs.YtdjfklllfbenjaaDoor.Below.but B3.out b4 GA.out)
  have HC5 := Lib.hid (write_any HB4.out HI2.out A3 n3 c3 td (P3.out.later B4.out GB.out.1) (Nat.le_trans Z2.out GB.out.1) (HT.out.below B4.out Z2.out) (by rw [List.length_append, L1.out, L3.out]; have := HKM.out; have := HN.out; omega))
  clear hx4 hi4 hh4 b4 HC4 HA3 HB3 B3
  go_wp2_with (fail)
  refine HC5.out.mono ?_
  rintro e w5 ⟨rfl, ⟨x5, hx5, hi5, hh5⟩, b5⟩
  have HB5 := Lib.hid hx5
  have HI5 : Hid (Inv x5 (hk0 n0) (kmsg kd ++ (sd ++ td)) ∧ x5.head = khead n0) := Lib.hid ⟨by rw [List.append_assoc] at hi5; exact hi5, hh5.trans HH2.out⟩
  have HA5 := Lib.hid (HA4.out.but b5 GB.out.2)
  have B5 := Lib.hid (Go.Proofs.YtdjfklllfbenjaaDoor.Below.but B4.out b5 GB.out.1)
  clear hx5 hi5 hh5 b5 HC5 HA4 HB4 B4 HI2 HH2
  have HC6 := Lib.hid (msum_any HA5.out HI4.out.1 (HT.out.below B5.out Z2.out) (by rw [List.length_append, List.length_append, L1.out, L2.out]; have := HKM.out; have := HN.out; omega))
  rw [← L0.out, hash_eq] at HC6
  go_wp2_with (fail)
  refine HC6.out.mono ?_
  rintro e w6 ⟨rfl, b6⟩
  obtain ⟨q1, q2, q3⟩ := arr_new w6 (hashB kd (sd ++ od))
  have hl6 := hashB_len kd (sd ++ od)
  have hb6 := b6.trans (q2.mono b6.size)
  have HA7 := Lib.hid (HA5.out.below hb6 HA5.out.lt)
  have HB7 := Lib.hid (HB5.out.below hb6 HB5.out.lt)
  have B7 := Lib.hid (B5.out.trans (hb6.mono B5.out.size))
  have R1 := Lib.hid q1
  have RN := Lib.hid q3
  clear q1 q2 q3 b6 hb6 HC6 HA5 HB5 B5
  obtain ⟨ha, hha⟩ : ∃ hh, hashB kd (sd ++ od) = hh := ⟨_, rfl⟩
  have HHA := Lib.hid hha
  rw [hha] at HA7 HB7 B7 R1 hl6 ⊢
  obtain ⟨W7, hW7⟩ : ∃ W7, (w6.alloc (.cells (u8s z32) 24)).setRow w6.heap.size (u8s ha) = W7 := ⟨_, rfl⟩
  rw [hW7] at HA7 HB7 B7 R1
  rw [u8s_z32] at RN hW7
  go_upto_region 10 with (refine st32 rfl _ _ rfl w6.heap.size rfl z32 ha rfl RN.out hl6 rfl ?_)
  try rw [hW7]
  have HL6 := Lib.hid hl6
  clear RN hW7 hha hl6
  generalize w6.heap.size = gx at *
  have HC8 := Lib.hid (msum_any HB7.out HI5.out.1 (HT.out.below B7.out Z2.out) (by rw [List.length_append, List.length_append, L1.out, L3.out]; have := HKM.out; have := HN.out; omega))
  rw [← L0.out, hash_eq] at HC8
  go_wp2_with (fail)
  refine HC8.out.mono ?_
  rintro e w8 ⟨rfl, b8⟩
  obtain ⟨q1, q2, q3⟩ := arr_new w8 (hashB kd (sd ++ td))
  have hl8 := hashB_len kd (sd ++ td)
  have hb8 := b8.trans (q2.mono b8.size)
  have HA9 := Lib.hid (HA7.out.below hb8 HA7.out.lt)
  have HB9 := Lib.hid (HB7.out.below hb8 HB7.out.lt)
  have B9 := Lib.hid (B7.out.trans (hb8.mono B7.out.size))
  have R19 := Lib.hid (R1.out.below hb8 R1.out.lt)
  have R2 := Lib.hid q1
  have RN := Lib.hid q3
  clear q1 q2 q3 b8 hb8 HC8 HA7 HB7 B7 R1
  obtain ⟨hb, hhb⟩ : ∃ hh, hashB kd (sd ++ td) = hh := ⟨_, rfl⟩
  have HHB := Lib.hid hhb
  rw [hhb] at HA9 HB9 B9 R19 R2 hl8 ⊢
  obtain ⟨W9, hW9⟩ : ∃ W9, (w8.alloc (.cells (u8s z32) 24)).setRow w8.heap.size (u8s hb) = W9 := ⟨_, rfl⟩
  rw [hW9] at HA9 HB9 B9 R19 R2
  rw [u8s_z32] at RN hW9
  go_upto_region 11 with (refine st32 rfl _ _ rfl w8.heap.size rfl z32 hb rfl RN.out hl8 rfl ?_)
  try rw [hW9]
  have HL8 := Lib.hid hl8
  clear RN hW9 hhb hl8
  generalize w8.heap.size = gy at *
  have OE : Hid (Own (W9.alloc (.cells #[] 5)) W9.heap.size (.slice (some ⟨W9.heap.size, 0, none⟩) 0 0) []) := Lib.hid (Own.new0 W9)
  have BE : Hid (Below W9.heap.size W9 (W9.alloc (.cells #[] 5))) := Lib.hid (Below.new W9 _)
  have PB := Lib.hid ((P1.out.later B9.out B9.out.size).later BE.out BE.out.size)
  go_upto_region 12 with (at_builtin; refine appBs rfl _ _ _ rfl Tryd.underlying22 rfl OE.out BE.out BE.out.size A1 n1 c1 (W9.alloc (.cells #[] 5)).heap.size sd rfl X1.out PB.out L1.out (by simp; have := HN.out; omega) ?_; intro vs w10 o10 b10 k10)
  rw [List.nil_append] at o10
  obtain ⟨As, cs, rfl, -⟩ := o10.shapeB
  rw [L1.out] at o10 ⊢
  have hRD : Below W9.heap.size W9 w10.drew := b10.drew
  have OSD : Hid (Own w10.drew W9.heap.size (.slice As n1 cs) sd) := Lib.hid (o10.below (Below.refl _ _).drew)
  clear o10 k10 OE BE PB b10
  obtain ⟨sx, hsx⟩ : ∃ z, strOfNums ha = z := ⟨_, rfl⟩
  obtain ⟨sy, hsy⟩ : ∃ z, strOfNums hb = z := ⟨_, rfl⟩
  have HKEEP : Hid (∀ w', Below W9.heap.size W9 w' → ((convert 22 9 (.slice (some ⟨gx, 0, none⟩) 32 32)).run Tryd.prog w' = .ok (.string sx) w' ∧ (convert 22 9 (.slice (some ⟨gy, 0, none⟩) 32 32)).run Tryd.prog w' = .ok (.string sy) w')) := Lib.hid fun w' h => by
    rw [← hsx, ← hsy]
    exact ⟨conv_part ((R19.out.part32 HL6.out).later h h.size), conv_part ((R2.out.part32 HL8.out).later h h.size)⟩
  have HSX : Hid (strOfNums (hashB kd (sd ++ od)) = sx) := Lib.hid (by rw [HHA.out]; exact hsx)
  have HSY : Hid (strOfNums (hashB kd (sd ++ td)) = sy) := Lib.hid (by rw [HHB.out]; exact hsy)
  have hw2 : IntKind.i64.wrap ((n1 : Int) + n2) = (n1 : Int) + n2 := by rw [IntKind.wrap_i64]; have := HN.out; omega
  have hw3 : IntKind.i64.wrap ((n1 : Int) + n3) = (n1 : Int) + n3 := by rw [IntKind.wrap_i64]; have := HN.out; omega
  have HLEN1 : Hid (∀ w', Below W9.heap.size W9 w' → Calls Tryd.prog 21 #[.pointer (some ⟨ga, 0, none⟩)] w' fun e w'' => e = .returned (.int .i64 ((n1 : Int) + n2)) ∧ Below W9.heap.size W9 w'') := Lib.hid fun w' h => (len_any (HA9.out.below h HA9.out.lt) HI4.out.1 (by rw [List.length_append, List.length_append, L1.out, L2.out]; have := HKM.out; have := HN.out; omega) (by rw [HI4.out.2, List.length_append, kmsg_head kd (by rw [L0.out]; exact HN.out.1), L0.out]; omega)).mono fun e w'' hz => by
    obtain ⟨e1, n, rfl⟩ := hz
    refine ⟨?_, below_drewN h n⟩
    rw [e1, HI4.out.2, List.length_append, kmsg_head kd (by rw [L0.out]; exact HN.out.1), L0.out, Nat.add_sub_cancel_left, List.length_append, L1.out, L2.out]
    rfl
  have HLEN2 : Hid (∀ w', Below W9.heap.size W9 w' → Calls Tryd.prog 21 #[.pointer (some ⟨gb, 0, none⟩)] w' fun e w'' => e = .returned (.int .i64 ((n1 : Int) + n3)) ∧ Below W9.heap.size W9 w'') := Lib.hid fun w' h => (len_any (HB9.out.below h HB9.out.lt) HI5.out.1 (by rw [List.length_append, List.length_append, L1.out, L3.out]; have := HKM.out; have := HN.out; omega) (by rw [HI5.out.2, List.length_append, kmsg_head kd (by rw [L0.out]; exact HN.out.1), L0.out]; omega)).mono fun e w'' hz => by
    obtain ⟨e1, n, rfl⟩ := hz
    refine ⟨?_, below_drewN h n⟩
    rw [e1, HI5.out.2, List.length_append, kmsg_head kd (by rw [L0.out]; exact HN.out.1), L0.out, Nat.add_sub_cancel_left, List.length_append, L1.out, L3.out]
    rfl
  have HKW : Hid (∀ w', Below W9.heap.size W9 w' → Calls Tryd.prog 14 #[] w' fun e w'' => e = .returned (.bool true) ∧ Below w.heap.size w w'' ∧ Below W9.heap.size W9 w'') := Lib.hid fun w' h => (known_any w' (HT.out.below (B9.out.trans (h.mono B9.out.size)) Z2.out)).mono fun e w'' hh => ⟨hh.1, (B9.out.trans (h.mono B9.out.size)).trans (hh.2.mono (Nat.le_trans B9.out.size h.size)), h.trans (hh.2.mono h.size)⟩
  clear hsx hsy
  refine wp_region_held_drew (S := fun w' => (convert 22 9 (.slice (some ⟨gx, 0, none⟩) 32 32)).run Tryd.prog w' = .ok (.string sx) w' ∧ (convert 22 9 (.slice (some ⟨gy, 0, none⟩) 32 32)).run Tryd.prog w' = .ok (.string sy) w') (by kernel_rfl) (HKEEP.out _ hRD) (fun hS => ?_)
  refine wpAnyH_take (i := 0) (v := .int .i64 0) rfl (by kernel_rfl) (by kernel_rfl) (by kernel_rfl) (fun _ _ _ h => h) (Or.inl ⟨by rfl, ?_⟩) hS ?_
  · intro w hSw; obtain ⟨hs1, hs2⟩ := hSw; go_simp
  try simp only [List.getElem_toArray, List.getElem_cons_zero, List.getElem_cons_succ, Act.put, List.setIfInBounds_toArray, List.set_cons_zero, List.set_cons_succ]
  refine wpAnyH_take (i := 1) (v := .bool true) rfl (by kernel_rfl) (by kernel_rfl) (by kernel_rfl) (fun _ _ _ h => h) (Or.inl ⟨by rfl, ?_⟩) hS ?_
  · intro w hSw; obtain ⟨hs1, hs2⟩ := hSw; go_simp
  try simp only [List.getElem_toArray, List.getElem_cons_zero, List.getElem_cons_succ, Act.put, List.setIfInBounds_toArray, List.set_cons_zero, List.set_cons_succ]
  refine wpAnyH_take (i := 2) (v := .bool true) rfl (by kernel_rfl) (by kernel_rfl) (by kernel_rfl) (fun _ _ _ h => h) (Or.inl ⟨by rfl, ?_⟩) hS ?_
  · intro w hSw; obtain ⟨hs1, hs2⟩ := hSw; go_simp
  try simp only [List.getElem_toArray, List.getElem_cons_zero, List.getElem_cons_succ, Act.put, List.setIfInBounds_toArray, List.set_cons_zero, List.set_cons_succ]
  refine wpAnyH_take (i := 3) (v := .int .i64 0) rfl (by kernel_rfl) (by kernel_rfl) (by kernel_rfl) (fun _ _ _ h => h) (Or.inl ⟨by rfl, ?_⟩) hS ?_
  · intro w hSw; obtain ⟨hs1, hs2⟩ := hSw; go_simp
  try simp only [List.getElem_toArray, List.getElem_cons_zero, List.getElem_cons_succ, Act.put, List.setIfInBounds_toArray, List.set_cons_zero, List.set_cons_succ]
  refine wpAnyH_take (i := 4) (v := .bool true) rfl (by kernel_rfl) (by kernel_rfl) (by kernel_rfl) (fun _ _ _ h => h) (Or.inl ⟨by rfl, ?_⟩) hS ?_
  · intro w hSw; obtain ⟨hs1, hs2⟩ := hSw; go_simp
  try simp only [List.getElem_toArray, List.getElem_cons_zero, List.getElem_cons_succ, Act.put, List.setIfInBounds_toArray, List.set_cons_zero, List.set_cons_succ]
  refine wpAnyH_take (i := 5) (v := .bool true) rfl (by kernel_rfl) (by kernel_rfl) (by kernel_rfl) (fun _ _ _ h => h) (Or.inl ⟨by rfl, ?_⟩) hS ?_
  · intro w hSw; obtain ⟨hs1, hs2⟩ := hSw; go_simp
  try simp only [List.getElem_toArray, List.getElem_cons_zero, List.getElem_cons_succ, Act.put, List.setIfInBounds_toArray, List.set_cons_zero, List.set_cons_succ]
  refine wpAnyH_take (i := 6) (v := .bool true) rfl (by kernel_rfl) (by kernel_rfl) (by kernel_rfl) (fun _ _ _ h => h) (Or.inl ⟨by rfl, ?_⟩) hS ?_
  · intro w hSw; obtain ⟨hs1, hs2⟩ := hSw; go_simp
  try simp only [List.getElem_toArray, List.getElem_cons_zero, List.getElem_cons_succ, Act.put, List.setIfInBounds_toArray, List.set_cons_zero, List.set_cons_succ]
  refine wpAnyH_take (i := 7) (v := .slice (some ⟨gx, 0, none⟩) 32 32) rfl (by kernel_rfl) (by kernel_rfl) (by kernel_rfl) (fun _ _ _ h => h) (Or.inl ⟨by rfl, ?_⟩) hS ?_
  · intro w hSw; obtain ⟨hs1, hs2⟩ := hSw; go_simp
  try simp only [List.getElem_toArray, List.getElem_cons_zero, List.getElem_cons_succ, Act.put, List.setIfInBounds_toArray, List.set_cons_zero, List.set_cons_succ]
  refine wpAnyH_take (i := 8) (v := .string sx) rfl (by kernel_rfl) (by kernel_rfl) (by kernel_rfl) (fun _ _ _ h => h) (Or.inl ⟨by rfl, ?_⟩) hS ?_
  · intro w hSw; obtain ⟨hs1, hs2⟩ := hSw; go_simp
  try simp only [List.getElem_toArray, List.getElem_cons_zero, List.getElem_cons_succ, Act.put, List.setIfInBounds_toArray, List.set_cons_zero, List.set_cons_succ]
  refine wpAnyH_take (i := 9) (v := .slice A0 n0 c0) rfl (by kernel_rfl) (by kernel_rfl) (by kernel_rfl) (fun _ _ _ h => h) (Or.inl ⟨by rfl, ?_⟩) hS ?_
  · intro w hSw; obtain ⟨hs1, hs2⟩ := hSw; go_simp
  try simp only [List.getElem_toArray, List.getElem_cons_zero, List.getElem_cons_succ, Act.put, List.setIfInBounds_toArray, List.set_cons_zero, List.set_cons_succ]
  refine wpAnyH_take (i := 10) (v := .slice As n1 cs) rfl (by kernel_rfl) (by kernel_rfl) (by kernel_rfl) (fun _ _ _ h => h) (Or.inl ⟨by rfl, ?_⟩) hS ?_
  · intro w hSw; obtain ⟨hs1, hs2⟩ := hSw; go_simp
  try simp only [List.getElem_toArray, List.getElem_cons_zero, List.getElem_cons_succ, Act.put, List.setIfInBounds_toArray, List.set_cons_zero, List.set_cons_succ]
  refine wpAnyH_take (i := 11) (v := .slice A2 n2 c2) rfl (by kernel_rfl) (by kernel_rfl) (by kernel_rfl) (fun _ _ _ h => h) (Or.inl ⟨by rfl, ?_⟩) hS ?_
  · intro w hSw; obtain ⟨hs1, hs2⟩ := hSw; go_simp
  try simp only [List.getElem_toArray, List.getElem_cons_zero, List.getElem_cons_succ, Act.put, List.setIfInBounds_toArray, List.set_cons_zero, List.set_cons_succ]
  refine wpAnyH_ready (rs := [12]) (by kernel_rfl) (by simp) ?_
  refine AllReadyH.cons rfl (fun K hK => ?_) AllReadyH.nil
  refine stepA (by rfl) _ _ _ rfl Tryd.underlying22 rfl OSD.out hRD.size A2 n2 c2 _ od rfl X2.out (P2.out.later (B9.out.trans (hRD.mono B9.out.size)) (Nat.le_trans B9.out.size hRD.size)) L2.out (by rw [L1.out]; have := HN.out; omega) ?_; intro v1 u1 o1 s1 b1
  have hb1 : Below W9.heap.size W9 u1 := hRD.trans b1
  obtain ⟨Av1, cv1, rfl, hAv1⟩ := o1.shapeB
  rw [show (sd ++ od).length = n1 + n2 by rw [List.length_append, L1.out, L2.out]] at o1 ⊢
  have hc1 := rhash_any A0 Av1 n0 c0 (n1 + n2) cv1 kd (sd ++ od) u1 L0.out HN.out.1 (P0.out.later (B9.out.trans (hb1.mono B9.out.size)) (Nat.le_trans B9.out.size hb1.size)) o1.part (by rw [List.length_append, L1.out, L2.out]) (by have := HN.out; omega) X0.out hAv1
  have OS1 := Lib.hid s1
  clear o1 s1 b1
  refine hK.out _ _ (HKEEP.out _ hb1) (fun hS => ?_); clear hK K
  try simp only [List.getElem_toArray, List.getElem_cons_zero, List.getElem_cons_succ, Act.put, List.setIfInBounds_toArray, List.set_cons_zero, List.set_cons_succ]
  refine wpAnyH_ready (rs := [13]) (by kernel_rfl) (by simp) ?_
  refine AllReadyH.cons rfl (fun K hK => ?_) AllReadyH.nil
  go_simp; go_at_call 16; refine hc1.mono ?_; rintro e z1 ⟨⟨y1, rfl, p1⟩, d1⟩
  have hz1 : Below W9.heap.size W9 z1 := hb1.trans (d1.mono hb1.size)
  have hv1 : (convert 22 9 y1).run Tryd.prog z1 = .ok (.string sx) z1 := by rw [← HSX.out]; exact conv_part p1.part
  have OZ1 := Lib.hid (OS1.out.below d1)
  clear p1 d1 hc1 OS1
  refine hK.out _ _ (HKEEP.out _ hz1) (fun hS => ?_); clear hK K
  try simp only [List.getElem_toArray, List.getElem_cons_zero, List.getElem_cons_succ, Act.put, List.setIfInBounds_toArray, List.set_cons_zero, List.set_cons_succ]
  refine wpAnyH_ready (rs := [14]) (by kernel_rfl) (by simp) ?_
  refine AllReadyH.cons rfl (fun K hK => ?_) AllReadyH.nil
  go_simp
  refine hK.out _ _ (HKEEP.out _ hz1) (fun hS => ?_); clear hK K
  try simp only [List.getElem_toArray, List.getElem_cons_zero, List.getElem_cons_succ, Act.put, List.setIfInBounds_toArray, List.set_cons_zero, List.set_cons_succ]
  clear hv1
  refine wpAnyH_take (i := 15) (v := .bool true) rfl (by kernel_rfl) (by kernel_rfl) (by kernel_rfl) (fun _ _ _ h => h) (Or.inl ⟨by rfl, ?_⟩) hS ?_
  · intro w hSw; obtain ⟨hs1, hs2⟩ := hSw; go_simp
  try simp only [List.getElem_toArray, List.getElem_cons_zero, List.getElem_cons_succ, Act.put, List.setIfInBounds_toArray, List.set_cons_zero, List.set_cons_succ]
  refine wpAnyH_take (i := 16) (v := .bool true) rfl (by kernel_rfl) (by kernel_rfl) (by kernel_rfl) (fun _ _ _ h => h) (Or.inl ⟨by rfl, ?_⟩) hS ?_
  · intro w hSw; obtain ⟨hs1, hs2⟩ := hSw; go_simp
  try simp only [List.getElem_toArray, List.getElem_cons_zero, List.getElem_cons_succ, Act.put, List.setIfInBounds_toArray, List.set_cons_zero, List.set_cons_succ]
  refine wpAnyH_take (i := 17) (v := .bool true) rfl (by kernel_rfl) (by kernel_rfl) (by kernel_rfl) (fun _ _ _ h => h) (Or.inl ⟨by rfl, ?_⟩) hS ?_
  · intro w hSw; obtain ⟨hs1, hs2⟩ := hSw; go_simp
  try simp only [List.getElem_toArray, List.getElem_cons_zero, List.getElem_cons_succ, Act.put, List.setIfInBounds_toArray, List.set_cons_zero, List.set_cons_succ]
  refine wpAnyH_take (i := 18) (v := .slice (some ⟨gy, 0, none⟩) 32 32) rfl (by kernel_rfl) (by kernel_rfl) (by kernel_rfl) (fun _ _ _ h => h) (Or.inl ⟨by rfl, ?_⟩) hS ?_
  · intro w hSw; obtain ⟨hs1, hs2⟩ := hSw; go_simp
  try simp only [List.getElem_toArray, List.getElem_cons_zero, List.getElem_cons_succ, Act.put, List.setIfInBounds_toArray, List.set_cons_zero, List.set_cons_succ]
  refine wpAnyH_take (i := 19) (v := .string sy) rfl (by kernel_rfl) (by kernel_rfl) (by kernel_rfl) (fun _ _ _ h => h) (Or.inl ⟨by rfl, ?_⟩) hS ?_
  · intro w hSw; obtain ⟨hs1, hs2⟩ := hSw; go_simp
  try simp only [List.getElem_toArray, List.getElem_cons_zero, List.getElem_cons_succ, Act.put, List.setIfInBounds_toArray, List.set_cons_zero, List.set_cons_succ]
  refine wpAnyH_take (i := 20) (v := .slice A0 n0 c0) rfl (by kernel_rfl) (by kernel_rfl) (by kernel_rfl) (fun _ _ _ h => h) (Or.inl ⟨by rfl, ?_⟩) hS ?_
  · intro w hSw; obtain ⟨hs1, hs2⟩ := hSw; go_simp
  try simp only [List.getElem_toArray, List.getElem_cons_zero, List.getElem_cons_succ, Act.put, List.setIfInBounds_toArray, List.set_cons_zero, List.set_cons_succ]
  refine wpAnyH_take (i := 21) (v := .slice As n1 cs) rfl (by kernel_rfl) (by kernel_rfl) (by kernel_rfl) (fun _ _ _ h => h) (Or.inl ⟨by rfl, ?_⟩) hS ?_
  · intro w hSw; obtain ⟨hs1, hs2⟩ := hSw; go_simp
  try simp only [List.getElem_toArray, List.getElem_cons_zero, List.getElem_cons_succ, Act.put, List.setIfInBounds_toArray, List.set_cons_zero, List.set_cons_succ]
  refine wpAnyH_take (i := 22) (v := .slice A3 n3 c3) rfl (by kernel_rfl) (by kernel_rfl) (by kernel_rfl) (fun _ _ _ h => h) (Or.inl ⟨by rfl, ?_⟩) hS ?_
  · intro w hSw; obtain ⟨hs1, hs2⟩ := hSw; go_simp
  try simp only [List.getElem_toArray, List.getElem_cons_zero, List.getElem_cons_succ, Act.put, List.setIfInBounds_toArray, List.set_cons_zero, List.set_cons_succ]
  refine wpAnyH_ready (rs := [23]) (by kernel_rfl) (by simp) ?_
  refine AllReadyH.cons rfl (fun K hK => ?_) AllReadyH.nil
  refine stepA (by rfl) _ _ _ rfl Tryd.underlying22 rfl OZ1.out hz1.size A3 n3 c3 _ td rfl X3.out (P3.out.later (B9.out.trans (hz1.mono B9.out.size)) (Nat.le_trans B9.out.size hz1.size)) L3.out (by rw [L1.out]; have := HN.out; omega) ?_; intro v2 u2 o2 s2 b2
  have hb2 : Below W9.heap.size W9 u2 := hz1.trans b2
  obtain ⟨Av2, cv2, rfl, hAv2⟩ := o2.shapeB
  rw [show (sd ++ td).length = n1 + n3 by rw [List.length_append, L1.out, L3.out]] at o2 ⊢
  have hc2 := rhash_any A0 Av2 n0 c0 (n1 + n3) cv2 kd (sd ++ td) u2 L0.out HN.out.1 (P0.out.later (B9.out.trans (hb2.mono B9.out.size)) (Nat.le_trans B9.out.size hb2.size)) o2.part (by rw [List.length_append, L1.out, L3.out]) (by have := HN.out; omega) X0.out hAv2
  have OS2 := Lib.hid s2
  clear o2 s2 b2
  refine hK.out _ _ (HKEEP.out _ hb2) (fun hS => ?_); clear hK K
  try simp only [List.getElem_toArray, List.getElem_cons_zero, List.getElem_cons_succ, Act.put, List.setIfInBounds_toArray, List.set_cons_zero, List.set_cons_succ]
  refine wpAnyH_ready (rs := [24]) (by kernel_rfl) (by simp) ?_
  refine AllReadyH.cons rfl (fun K hK => ?_) AllReadyH.nil
  go_simp; go_at_call 16; refine hc2.mono ?_; rintro e z2 ⟨⟨y2, rfl, p2⟩, d2⟩
  have hz2 : Below W9.heap.size W9 z2 := hb2.trans (d2.mono hb2.size)
  have hv2 : (convert 22 9 y2).run Tryd.prog z2 = .ok (.string sy) z2 := by rw [← HSY.out]; exact conv_part p2.part
  have OZ2 := Lib.hid (OS2.out.below d2)
  clear p2 d2 hc2 OS2
  refine hK.out _ _ (HKEEP.out _ hz2) (fun hS => ?_); clear hK K
  try simp only [List.getElem_toArray, List.getElem_cons_zero, List.getElem_cons_succ, Act.put, List.setIfInBounds_toArray, List.set_cons_zero, List.set_cons_succ]
  refine wpAnyH_ready (rs := [25]) (by kernel_rfl) (by simp) ?_
  refine AllReadyH.cons rfl (fun K hK => ?_) AllReadyH.nil
  go_simp
  refine hK.out _ _ (HKEEP.out _ hz2) (fun hS => ?_); clear hK K
  try simp only [List.getElem_toArray, List.getElem_cons_zero, List.getElem_cons_succ, Act.put, List.setIfInBounds_toArray, List.set_cons_zero, List.set_cons_succ]
  clear hv2
  refine wpAnyH_take (i := 26) (v := .bool true) rfl (by kernel_rfl) (by kernel_rfl) (by kernel_rfl) (fun _ _ _ h => h) (Or.inl ⟨by rfl, ?_⟩) hS ?_
  · intro w hSw; obtain ⟨hs1, hs2⟩ := hSw; go_simp
  try simp only [List.getElem_toArray, List.getElem_cons_zero, List.getElem_cons_succ, Act.put, List.setIfInBounds_toArray, List.set_cons_zero, List.set_cons_succ]
  refine wpAnyH_take (i := 27) (v := .bool true) rfl (by kernel_rfl) (by kernel_rfl) (by kernel_rfl) (fun _ _ _ h => h) (Or.inl ⟨by rfl, ?_⟩) hS ?_
  · intro w hSw; obtain ⟨hs1, hs2⟩ := hSw; go_simp
  try simp only [List.getElem_toArray, List.getElem_cons_zero, List.getElem_cons_succ, Act.put, List.setIfInBounds_toArray, List.set_cons_zero, List.set_cons_succ]
  refine wpAnyH_take (i := 28) (v := .bool true) rfl (by kernel_rfl) (by kernel_rfl) (by kernel_rfl) (fun _ _ _ h => h) (Or.inl ⟨by rfl, ?_⟩) hS ?_
  · intro w hSw; obtain ⟨hs1, hs2⟩ := hSw; go_simp
  try simp only [List.getElem_toArray, List.getElem_cons_zero, List.getElem_cons_succ, Act.put, List.setIfInBounds_toArray, List.set_cons_zero, List.set_cons_succ]
  refine wpAnyH_take (i := 29) (v := .pointer (some ⟨ga, 0, none⟩)) rfl (by kernel_rfl) (by kernel_rfl) (by kernel_rfl) (fun _ _ _ h => h) (Or.inl ⟨by rfl, ?_⟩) hS ?_
  · intro w hSw; obtain ⟨hs1, hs2⟩ := hSw; go_simp
  try simp only [List.getElem_toArray, List.getElem_cons_zero, List.getElem_cons_succ, Act.put, List.setIfInBounds_toArray, List.set_cons_zero, List.set_cons_succ]
  refine wpAnyH_take (i := 31) (v := .slice A1 n1 c1) rfl (by kernel_rfl) (by kernel_rfl) (by kernel_rfl) (fun _ _ _ h => h) (Or.inl ⟨by rfl, ?_⟩) hS ?_
  · intro w hSw; obtain ⟨hs1, hs2⟩ := hSw; go_simp
  try simp only [List.getElem_toArray, List.getElem_cons_zero, List.getElem_cons_succ, Act.put, List.setIfInBounds_toArray, List.set_cons_zero, List.set_cons_succ]
  refine wpAnyH_take (i := 32) (v := .int .i64 n1) rfl (by kernel_rfl) (by kernel_rfl) (by kernel_rfl) (fun _ _ _ h => h) (Or.inl ⟨by rfl, ?_⟩) hS ?_
  · intro w hSw; obtain ⟨hs1, hs2⟩ := hSw; go_simp
  try simp only [List.getElem_toArray, List.getElem_cons_zero, List.getElem_cons_succ, Act.put, List.setIfInBounds_toArray, List.set_cons_zero, List.set_cons_succ]
  refine wpAnyH_take (i := 33) (v := .slice A2 n2 c2) rfl (by kernel_rfl) (by kernel_rfl) (by kernel_rfl) (fun _ _ _ h => h) (Or.inl ⟨by rfl, ?_⟩) hS ?_
  · intro w hSw; obtain ⟨hs1, hs2⟩ := hSw; go_simp
  try simp only [List.getElem_toArray, List.getElem_cons_zero, List.getElem_cons_succ, Act.put, List.setIfInBounds_toArray, List.set_cons_zero, List.set_cons_succ]
  refine wpAnyH_take (i := 34) (v := .int .i64 n2) rfl (by kernel_rfl) (by kernel_rfl) (by kernel_rfl) (fun _ _ _ h => h) (Or.inl ⟨by rfl, ?_⟩) hS ?_
  · intro w hSw; obtain ⟨hs1, hs2⟩ := hSw; go_simp
  try simp only [List.getElem_toArray, List.getElem_cons_zero, List.getElem_cons_succ, Act.put, List.setIfInBounds_toArray, List.set_cons_zero, List.set_cons_succ]
  refine wpAnyH_take (i := 35) (v := .int .i64 ((n1 : Int) + n2)) rfl (by kernel_rfl) (by kernel_rfl) (by kernel_rfl) (fun _ _ _ h => h) (Or.inl ⟨by rfl, ?_⟩) hS ?_
  · intro w hSw; obtain ⟨hs1, hs2⟩ := hSw; go_simp
  try simp only [List.getElem_toArray, List.getElem_cons_zero, List.getElem_cons_succ, Act.put, List.setIfInBounds_toArray, List.set_cons_zero, List.set_cons_succ]
  refine wpAnyH_ready (rs := [30]) (by kernel_rfl) (by simp) ?_
  refine AllReadyH.cons rfl (fun K hK => ?_) AllReadyH.nil
  go_simp; go_at_call 21; refine (HLEN1.out _ hz2).mono ?_; rintro e q1 ⟨rfl, hq1⟩
  refine hK.out _ _ (HKEEP.out _ hq1) (fun hS => ?_); clear hK K
  try simp only [List.getElem_toArray, List.getElem_cons_zero, List.getElem_cons_succ, Act.put, List.setIfInBounds_toArray, List.set_cons_zero, List.set_cons_succ]
  refine wpAnyH_take (i := 36) (v := .bool true) rfl (by kernel_rfl) (by kernel_rfl) (by kernel_rfl) (fun _ _ _ h => h) (Or.inl ⟨by rfl, ?_⟩) hS ?_
  · intro w hSw; obtain ⟨hs1, hs2⟩ := hSw; go_simp
  try simp only [List.getElem_toArray, List.getElem_cons_zero, List.getElem_cons_succ, Act.put, List.setIfInBounds_toArray, List.set_cons_zero, List.set_cons_succ]
  refine wpAnyH_take (i := 37) (v := .bool true) rfl (by kernel_rfl) (by kernel_rfl) (by kernel_rfl) (fun _ _ _ h => h) (Or.inl ⟨by rfl, ?_⟩) hS ?_
  · intro w hSw; obtain ⟨hs1, hs2⟩ := hSw; go_simp
  try simp only [List.getElem_toArray, List.getElem_cons_zero, List.getElem_cons_succ, Act.put, List.setIfInBounds_toArray, List.set_cons_zero, List.set_cons_succ]
  refine wpAnyH_take (i := 38) (v := .bool true) rfl (by kernel_rfl) (by kernel_rfl) (by kernel_rfl) (fun _ _ _ h => h) (Or.inl ⟨by rfl, ?_⟩) hS ?_
  · intro w hSw; obtain ⟨hs1, hs2⟩ := hSw; go_simp
  try simp only [List.getElem_toArray, List.getElem_cons_zero, List.getElem_cons_succ, Act.put, List.setIfInBounds_toArray, List.set_cons_zero, List.set_cons_succ]
  refine wpAnyH_take (i := 39) (v := .pointer (some ⟨gb, 0, none⟩)) rfl (by kernel_rfl) (by kernel_rfl) (by kernel_rfl) (fun _ _ _ h => h) (Or.inl ⟨by rfl, ?_⟩) hS ?_
  · intro w hSw; obtain ⟨hs1, hs2⟩ := hSw; go_simp
  try simp only [List.getElem_toArray, List.getElem_cons_zero, List.getElem_cons_succ, Act.put, List.setIfInBounds_toArray, List.set_cons_zero, List.set_cons_succ]
  refine wpAnyH_take (i := 41) (v := .slice A1 n1 c1) rfl (by kernel_rfl) (by kernel_rfl) (by kernel_rfl) (fun _ _ _ h => h) (Or.inl ⟨by rfl, ?_⟩) hS ?_
  · intro w hSw; obtain ⟨hs1, hs2⟩ := hSw; go_simp
  try simp only [List.getElem_toArray, List.getElem_cons_zero, List.getElem_cons_succ, Act.put, List.setIfInBounds_toArray, List.set_cons_zero, List.set_cons_succ]
  refine wpAnyH_take (i := 42) (v := .int .i64 n1) rfl (by kernel_rfl) (by kernel_rfl) (by kernel_rfl) (fun _ _ _ h => h) (Or.inl ⟨by rfl, ?_⟩) hS ?_
  · intro w hSw; obtain ⟨hs1, hs2⟩ := hSw; go_simp
  try simp only [List.getElem_toArray, List.getElem_cons_zero, List.getElem_cons_succ, Act.put, List.setIfInBounds_toArray, List.set_cons_zero, List.set_cons_succ]
  refine wpAnyH_take (i := 43) (v := .slice A3 n3 c3) rfl (by kernel_rfl) (by kernel_rfl) (by kernel_rfl) (fun _ _ _ h => h) (Or.inl ⟨by rfl, ?_⟩) hS ?_
  · intro w hSw; obtain ⟨hs1, hs2⟩ := hSw; go_simp
  try simp only [List.getElem_toArray, List.getElem_cons_zero, List.getElem_cons_succ, Act.put, List.setIfInBounds_toArray, List.set_cons_zero, List.set_cons_succ]
  refine wpAnyH_take (i := 44) (v := .int .i64 n3) rfl (by kernel_rfl) (by kernel_rfl) (by kernel_rfl) (fun _ _ _ h => h) (Or.inl ⟨by rfl, ?_⟩) hS ?_
  · intro w hSw; obtain ⟨hs1, hs2⟩ := hSw; go_simp
  try simp only [List.getElem_toArray, List.getElem_cons_zero, List.getElem_cons_succ, Act.put, List.setIfInBounds_toArray, List.set_cons_zero, List.set_cons_succ]
  refine wpAnyH_take (i := 45) (v := .int .i64 ((n1 : Int) + n3)) rfl (by kernel_rfl) (by kernel_rfl) (by kernel_rfl) (fun _ _ _ h => h) (Or.inl ⟨by rfl, ?_⟩) hS ?_
  · intro w hSw; obtain ⟨hs1, hs2⟩ := hSw; go_simp
  try simp only [List.getElem_toArray, List.getElem_cons_zero, List.getElem_cons_succ, Act.put, List.setIfInBounds_toArray, List.set_cons_zero, List.set_cons_succ]
  refine wpAnyH_ready (rs := [40]) (by kernel_rfl) (by simp) ?_
  refine AllReadyH.cons rfl (fun K hK => ?_) AllReadyH.nil
  go_simp; go_at_call 21; refine (HLEN2.out _ hq1).mono ?_; rintro e q2 ⟨rfl, hq2⟩
  refine hK.out _ _ (HKEEP.out _ hq2) (fun hS => ?_); clear hK K
  try simp only [List.getElem_toArray, List.getElem_cons_zero, List.getElem_cons_succ, Act.put, List.setIfInBounds_toArray, List.set_cons_zero, List.set_cons_succ]
  refine wpAnyH_take (i := 46) (v := .bool true) rfl (by kernel_rfl) (by kernel_rfl) (by kernel_rfl) (fun _ _ _ h => h) (Or.inl ⟨by rfl, ?_⟩) hS ?_
  · intro w hSw; obtain ⟨hs1, hs2⟩ := hSw; go_simp
  try simp only [List.getElem_toArray, List.getElem_cons_zero, List.getElem_cons_succ, Act.put, List.setIfInBounds_toArray, List.set_cons_zero, List.set_cons_succ]
  refine wpAnyH_take (i := 47) (v := .bool true) rfl (by kernel_rfl) (by kernel_rfl) (by kernel_rfl) (fun _ _ _ h => h) (Or.inl ⟨by rfl, ?_⟩) hS ?_
  · intro w hSw; obtain ⟨hs1, hs2⟩ := hSw; go_simp
  try simp only [List.getElem_toArray, List.getElem_cons_zero, List.getElem_cons_succ, Act.put, List.setIfInBounds_toArray, List.set_cons_zero, List.set_cons_succ]
  refine wpAnyH_take (i := 48) (v := .bool true) rfl (by kernel_rfl) (by kernel_rfl) (by kernel_rfl) (fun _ _ _ h => h) (Or.inl ⟨by rfl, ?_⟩) hS ?_
  · intro w hSw; obtain ⟨hs1, hs2⟩ := hSw; go_simp
  try simp only [List.getElem_toArray, List.getElem_cons_zero, List.getElem_cons_succ, Act.put, List.setIfInBounds_toArray, List.set_cons_zero, List.set_cons_succ]
  refine wpAnyH_ready (rs := [49]) (by kernel_rfl) (by simp) ?_
  refine AllReadyH.cons rfl (fun K hK => ?_) AllReadyH.nil
  go_simp; go_at_call 14; refine (HKW.out _ hq2).mono ?_; rintro e qz ⟨rfl, hqk, hqz⟩
  refine hK.out _ _ (HKEEP.out _ hqz) (fun hS => ?_); clear hK K
  try simp only [List.getElem_toArray, List.getElem_cons_zero, List.getElem_cons_succ, Act.put, List.setIfInBounds_toArray, List.set_cons_zero, List.set_cons_succ]
  refine wpAnyH_take (i := 50) (v := .bool true) rfl (by kernel_rfl) (by kernel_rfl) (by kernel_rfl) (fun _ _ _ h => h) (Or.inl ⟨by rfl, ?_⟩) hS ?_
  · intro w hSw; obtain ⟨hs1, hs2⟩ := hSw; go_simp
  try simp only [List.getElem_toArray, List.getElem_cons_zero, List.getElem_cons_succ, Act.put, List.setIfInBounds_toArray, List.set_cons_zero, List.set_cons_succ]
  refine wpAnyH_take (i := 51) (v := .bool true) rfl (by kernel_rfl) (by kernel_rfl) (by kernel_rfl) (fun _ _ _ h => h) (Or.inl ⟨by rfl, ?_⟩) hS ?_
  · intro w hSw; obtain ⟨hs1, hs2⟩ := hSw; go_simp
  try simp only [List.getElem_toArray, List.getElem_cons_zero, List.getElem_cons_succ, Act.put, List.setIfInBounds_toArray, List.set_cons_zero, List.set_cons_succ]
  refine wpAnyH_done (by kernel_rfl) ?_ _
  go_wp2_with (fail)
  go_ret
  exact ⟨rfl, hqk⟩
end Go.Proofs.YtdjfklllfbenjaaDoor
