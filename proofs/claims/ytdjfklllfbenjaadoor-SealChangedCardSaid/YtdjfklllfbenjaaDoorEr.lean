/- SealChanged: the walk. -/
import Derived.Test.YtdjfklllfbenjaaDoorEm
namespace Go.Proofs.YtdjfklllfbenjaaDoor
open Go.RowKit

set_option maxRecDepth 100000 in
set_option maxHeartbeats 8000000 in
theorem changed_any (A0 A1 A2 : Option Addr) (n0 c0 n1 c1 n2 c2 : Nat) (ks ns ps : List Int) (za y zl : Int) (w : World) (hl0 : ks.length = n0) (hk0 : PartAt w w.heap.size (.slice A0 n0 c0) ks) (hl1 : ns.length = n1) (hk1 : PartAt w w.heap.size (.slice A1 n1 c1) ns) (hb1 : Bys8 ns) (hl2 : ps.length = n2) (hk2 : PartAt w w.heap.size (.slice A2 n2 c2) ps) (hy : By y) (htab : Tabs w) :
    Calls Tryd.prog 12 #[.slice A0 n0 c0, .slice A1 n1 c1, .slice A2 n2 c2, .int .i64 za, .int .u8 y, .int .i64 zl] w fun e w' => e = .returned (.bool true) ∧ Below w.heap.size w w' := by
  have HKN : Hid (∀ w', Below w.heap.size w w' → Calls Tryd.prog 23 #[] w' fun e w'' => e = .returned (.bool true) ∧ Below w.heap.size w w'') := Lib.hid fun w' h => (sknown_any w' (htab.below h htab.lt)).mono fun e w'' hh => ⟨hh.1, h.trans (hh.2.mono h.size)⟩
  by_cases g1 : 100 < n2
  · have gI : (100 : Int) < n2 := by omega
    clear hl0 hk0 hl1 hk1 hb1 hl2 hk2 htab hy g1
    go_enter Tryd.func12, Tryd.ntmps12
    go_wp2_with (fail)
    refine (HKN.out w (Below.refl _ _)).mono ?_
    rintro e w1 ⟨rfl, h1⟩
    go_wp2_with (fail)
    go_ret
    exact ⟨rfl, h1⟩
  by_cases g2 : za < 0
  · have gI : ¬ (100 : Int) < n2 := by omega
    clear hl0 hk0 hl1 hk1 hb1 hl2 hk2 htab hy g1
    go_enter Tryd.func12, Tryd.ntmps12
    go_wp2_with (fail)
    refine (HKN.out w (Below.refl _ _)).mono ?_
    rintro e w1 ⟨rfl, h1⟩
    go_wp2_with (fail)
    go_ret
    exact ⟨rfl, h1⟩
  by_cases g3 : zl < 0
  · have gI : ¬ (100 : Int) < n2 := by omega
    clear hl0 hk0 hl1 hk1 hb1 hl2 hk2 htab hy g1
    go_enter Tryd.func12, Tryd.ntmps12
    go_wp2_with (fail)
    refine (HKN.out w (Below.refl _ _)).mono ?_
    rintro e w1 ⟨rfl, h1⟩
    go_wp2_with (fail)
    go_ret
    exact ⟨rfl, h1⟩
  have gI : ¬ (100 : Int) < n2 := by omega
  obtain ⟨a, rfl⟩ : ∃ a : Nat, za = a := ⟨za.toNat, by omega⟩
  obtain ⟨l, rfl⟩ : ∃ l : Nat, zl = l := ⟨zl.toNat, by omega⟩
  have HN2 : Hid (n2 ≤ 100) := Lib.hid (by omega)
  have HT0 := Lib.hid htab
  have Z2 : Hid (2 ≤ w.heap.size) := Lib.hid htab.lt
  have HC1 := Lib.hid (key_any A0 n0 c0 ks w hl0 hk0)
  have P1 := Lib.hid hk1
  have P2 := Lib.hid hk2
  have L1 := Lib.hid hl1
  have L2 := Lib.hid hl2
  have Y1 := Lib.hid hb1
  have HY := Lib.hid hy
  clear hl0 hk0 hl1 hk1 hb1 hl2 hk2 htab hy g1 g2 g3
  go_enter Tryd.func12, Tryd.ntmps12
  go_wp2_with (fail)
  refine HC1.out.mono ?_
  rintro e w1 ⟨⟨gk, rfl, o1⟩, b1⟩
  have OK1 := Lib.hid o1
  have HC2 := Lib.hid (nonce_any A1 n1 c1 ns w1 L1.out (P1.out.later b1 b1.size))
  have B1 := Lib.hid b1
  clear o1 b1 HC1
  go_wp2_with (fail)
  refine HC2.out.mono ?_
  rintro e w2 ⟨⟨gn, rfl, p2⟩, b2⟩
  have OK2 := Lib.hid (OK1.out.below b2)
  have B2 := Lib.hid (B1.out.trans (b2.mono B1.out.size))
  obtain ⟨K0, hK0⟩ : ∃ K0, keyOf ks = K0 := ⟨_, rfl⟩
  have KL : Hid (K0.length = 32) := Lib.hid (by rw [← hK0]; exact keyOf_len _)
  obtain ⟨N0, hN0⟩ : ∃ N0, (keyOf ns).take 16 = N0 := ⟨_, rfl⟩
  have NL : Hid (N0.length = 16) := Lib.hid (by rw [← hN0, List.length_take, keyOf_len]; rfl)
  have NB : Hid (Bys8 N0) := Lib.hid (by rw [← hN0]; exact (keyOf_by Y1.out).take _)
  rw [hK0] at OK2
  rw [hN0] at p2
  have HC3 := Lib.hid (Seal_ok (some ⟨gk, 0, none⟩) (some ⟨gn, 0, none⟩) A2 32 32 n2 c2 K0 N0 ps w2 KL.out OK2.out.part NL.out p2 L2.out (P2.out.later B2.out B2.out.size) (by have := HN2.out; omega) (HT0.out.below B2.out Z2.out))
  clear hK0 hN0 OK1 B1 p2 b2 HC2 P1 P2
  obtain ⟨m, hm⟩ : ∃ m, n2 + 32 = m := ⟨_, rfl⟩
  have HM := Lib.hid hm
  obtain ⟨SS, hSS⟩ : ∃ SS, sealL K0 N0 ps = SS := ⟨_, rfl⟩
  have SL : Hid (SS.length = m) := Lib.hid (by rw [← hSS, sealL_len, NL.out, L2.out]; omega)
  have SB : Hid (Bys8 SS) := Lib.hid (by rw [← hSS]; exact sealL_by _ _ _ NB.out)
  rw [hSS] at HC3
  clear hm hSS
  go_wp2_with (fail)
  refine HC3.out.mono ?_
  rintro e w3 ⟨⟨vs, rfl, o3⟩, b3⟩
  obtain ⟨gs, cs, rfl⟩ := o3.shape1 (by rw [SL.out]; have := HM.out; omega)
  rw [SL.out] at o3 ⊢
  have OS3 := Lib.hid o3
  have OK3 := Lib.hid (OK2.out.below b3)
  have B3 := Lib.hid (B2.out.trans (b3.mono B2.out.size))
  clear o3 b3 HC3 OK2 B2
  have hmm : (n2 : Int) + 32 = (m : Int) := by have := HM.out; omega
  have OE : Hid (Own (w3.alloc (.cells #[] 5)) w3.heap.size (.slice (some ⟨w3.heap.size, 0, none⟩) 0 0) []) := Lib.hid (Own.new0 w3)
  have BE : Hid (Below w3.heap.size w3 (w3.alloc (.cells #[] 5))) := Lib.hid (Below.new w3 _)
  have PB := Lib.hid (OS3.out.part.later BE.out BE.out.size)
  go_upto_region 8 with (at_builtin; refine appBs rfl _ _ _ rfl Tryd.underlying22 rfl OE.out BE.out BE.out.size (some ⟨gs, 0, none⟩) m cs (w3.alloc (.cells #[] 5)).heap.size SS rfl (fun e => by cases e) PB.out SL.out (by simp; have := HM.out; have := HN2.out; omega) ?_; intro v5 w5 o5 b5 k5)
  rw [List.nil_append] at o5
  obtain ⟨gc, cc, rfl⟩ := o5.shape1 (by rw [SL.out]; have := HM.out; omega)
  rw [SL.out] at o5 ⊢
  have OC5 := Lib.hid o5
  have OS5 := Lib.hid (OS3.out.below b5)
  have OK5 := Lib.hid (OK3.out.below b5)
  have B5 := Lib.hid (B3.out.trans (b5.mono B3.out.size))
  have D1 : Hid (gs ≠ gc ∧ gk ≠ gc) := Lib.hid (by have h1 := o5.base; have h2 := OS3.out.base; have h3 := OK3.out.base; omega)
  have S35 : Hid (w3.heap.size ≤ w5.heap.size) := Lib.hid b5.size
  clear o5 b5 k5 OE BE PB OS3 OK3 hmm
  -- c[at % len(c)] += by
  obtain ⟨q, hq⟩ : ∃ q, a % m = q := ⟨_, rfl⟩
  have hm0 : 0 < m := by have := HM.out; omega
  have hqm : q < m := by rw [← hq]; exact Nat.mod_lt _ hm0
  have t1 : Int.tmod (a : Int) (m : Int) = (q : Int) := by rw [Int.tmod_eq_emod_of_nonneg (by omega), ← hq]; simp
  have t2 : (a : Int) % (m : Int) = (q : Int) := by rw [← hq]; simp
  have t3 : (q : Int) < m := by omega
  have t4 : ¬ (m : Int) = 0 := by omega
  have c5 := OC5.out.cellAt (j := q) (by rw [SL.out]; exact hqm)
  have f5 := OC5.out.freeAt q
  obtain ⟨x1, hx1⟩ : ∃ x1, (at_ SS q + y) % 256 = x1 := ⟨_, rfl⟩
  have hx1b : By x1 := by rw [← hx1]; unfold By; omega
  have hx1w : IntKind.u8.wrap x1 = x1 := by rw [IntKind.wrap_u8']; unfold By at hx1b; omega
  have OC6 := Lib.hid (OC5.out.set_ (j := q) x1)
  have OS6 := Lib.hid (OS5.out.far (p := ⟨gc, q, none⟩) D1.out.1 (.int .u8 x1))
  have OK6 := Lib.hid (OK5.out.far (p := ⟨gc, q, none⟩) D1.out.2 (.int .u8 x1))
  have B6 := Lib.hid (B5.out.setCell (p := ⟨gc, q, none⟩) (Nat.le_trans B3.out.size OC5.out.base.1) (.int .u8 x1))
  have SCL : Hid ((SS.set q x1).length = m) := Lib.hid (by rw [List.length_set, SL.out])
  have SCB : Hid (Bys8 (SS.set q x1)) := Lib.hid (SB.out.set_ q hx1b)
  generalize at_ SS q = x0 at *
  clear hq hqm hx1b OC5 OS5 OK5 B5 B3 D1 S35
  go_upto_region 9 with (fail)
  clear c5 f5 t1 t2 t3 hx1 hx1w
  generalize w5.setCell ⟨gc, q, none⟩ (.int .u8 x1) = w6 at *
  obtain ⟨SC, hSC⟩ : ∃ SC, SS.set q x1 = SC := ⟨_, rfl⟩
  rw [hSC] at OC6 SCL SCB
  clear hSC
  -- d
  have OE6 : Hid (Own (w6.alloc (.cells #[] 5)) w6.heap.size (.slice (some ⟨w6.heap.size, 0, none⟩) 0 0) []) := Lib.hid (Own.new0 w6)
  have BE6 : Hid (Below w6.heap.size w6 (w6.alloc (.cells #[] 5))) := Lib.hid (Below.new w6 _)
  have PB6 := Lib.hid (OS6.out.part.later BE6.out BE6.out.size)
  go_upto_region 10 with (first
    | (at_builtin; refine appBs rfl _ _ _ rfl Tryd.underlying22 rfl OE6.out BE6.out BE6.out.size (some ⟨gs, 0, none⟩) m cs (w6.alloc (.cells #[] 5)).heap.size SS rfl (fun e => by cases e) PB6.out SL.out (by simp; have := HM.out; have := HN2.out; omega) ?_; intro v7 w7 o7 b7 k7)
    | (at_builtin; refine app1 rfl _ _ _ rfl Tryd.underlying22 rfl (o7.keep (fun g hg => Below.heap_alloc w7 (.cells #[.int .u8 y] 5) g hg)) (b7.alloc b7.size (.cells #[.int .u8 y] 5)) (by simp; have := b7.size; omega) w7.heap.size y rfl (by rw [World.cell?_alloc_at _ _ _ _ rfl]; rfl) (by rw [List.nil_append, SL.out]; have := HM.out; have := HN2.out; omega) ?_; intro v8 w8 o8 b8))
  rw [List.nil_append] at o8
  obtain ⟨SD, hSD⟩ : ∃ SD, SS ++ [y] = SD := ⟨_, rfl⟩
  have SDL : Hid (SD.length = m + 1) := Lib.hid (by rw [← hSD, List.length_append, SL.out]; rfl)
  have SDB : Hid (Bys8 SD) := Lib.hid (by rw [← hSD]; exact SB.out.app (fun x hx => by simp at hx; subst hx; exact HY.out))
  rw [hSD] at o8
  obtain ⟨gd, cd, rfl⟩ := o8.shape1 (by rw [SDL.out]; omega)
  rw [SDL.out] at o8 ⊢
  have OD8 := Lib.hid o8
  have OC8 := Lib.hid (OC6.out.below b8)
  have OS8 := Lib.hid (OS6.out.below b8)
  have OK8 := Lib.hid (OK6.out.below b8)
  have B8 := Lib.hid (B6.out.trans (b8.mono B6.out.size))
  clear o7 b7 k7 o8 b8 OE6 BE6 PB6 OC6 OS6 OK6 B6 hSD
  -- o
  have OE8 : Hid (Own (w8.alloc (.cells #[] 5)) w8.heap.size (.slice (some ⟨w8.heap.size, 0, none⟩) 0 0) []) := Lib.hid (Own.new0 w8)
  have BE8 : Hid (Below w8.heap.size w8 (w8.alloc (.cells #[] 5))) := Lib.hid (Below.new w8 _)
  have PB8 := Lib.hid (OK8.out.part.later BE8.out BE8.out.size)
  go_upto_region 11 with (at_builtin; refine appBs rfl _ _ _ rfl Tryd.underlying22 rfl OE8.out BE8.out BE8.out.size (some ⟨gk, 0, none⟩) 32 32 (w8.alloc (.cells #[] 5)).heap.size K0 rfl (fun e => by cases e) PB8.out KL.out (by simp) ?_; intro v9 w9 o9 b9 k9)
  rw [List.nil_append] at o9
  obtain ⟨go, co, rfl⟩ := o9.shape1 (by rw [KL.out]; omega)
  rw [KL.out] at o9 ⊢
  have OO9 := Lib.hid o9
  have OD9 := Lib.hid (OD8.out.below b9)
  have OC9 := Lib.hid (OC8.out.below b9)
  have OS9 := Lib.hid (OS8.out.below b9)
  have OK9 := Lib.hid (OK8.out.below b9)
  have B9 := Lib.hid (B8.out.trans (b9.mono B8.out.size))
  have D2 : Hid (gs ≠ go ∧ gk ≠ go ∧ gc ≠ go ∧ gd ≠ go) := Lib.hid (by have h1 := o9.base; have h2 := OS8.out.base; have h3 := OK8.out.base; have h4 := OC8.out.base; have h5 := OD8.out.base; omega)
  clear o9 b9 k9 OE8 BE8 PB8 OD8 OC8 OS8 OK8
  obtain ⟨q2, hq2⟩ : ∃ q, a % 32 = q := ⟨_, rfl⟩
  have hqm : q2 < 32 := by omega
  have t1 : Int.tmod (a : Int) 32 = (q2 : Int) := by rw [Int.tmod_eq_emod_of_nonneg (by omega), ← hq2]; simp
  have t2 : (a : Int) % 32 = (q2 : Int) := by rw [← hq2]; simp
  have t3 : (q2 : Int) < 32 := by omega
  have c9 := OO9.out.cellAt (j := q2) (by rw [KL.out]; exact hqm)
  have f9 := OO9.out.freeAt q2
  obtain ⟨x2, hx2⟩ : ∃ x2, x8 (at_ K0 q2) y = x2 := ⟨_, rfl⟩
  have hx2b : By x2 := by rw [← hx2]; exact x8_by _ _
  have hx2w : IntKind.u8.wrap x2 = x2 := by rw [IntKind.wrap_u8']; unfold By at hx2b; omega
  have hx2x : bits .xor .u8 (at_ K0 q2) y = x2 := hx2
  have OO := Lib.hid (OO9.out.set_ (j := q2) x2)
  have OD := Lib.hid (OD9.out.far (p := ⟨go, q2, none⟩) D2.out.2.2.2 (.int .u8 x2))
  have OC := Lib.hid (OC9.out.far (p := ⟨go, q2, none⟩) D2.out.2.2.1 (.int .u8 x2))
  have OS := Lib.hid (OS9.out.far (p := ⟨go, q2, none⟩) D2.out.1 (.int .u8 x2))
  have OKK := Lib.hid (OK9.out.far (p := ⟨go, q2, none⟩) D2.out.2.1 (.int .u8 x2))
  have BL := Lib.hid (B9.out.setCell (p := ⟨go, q2, none⟩) (Nat.le_trans B8.out.size OO9.out.base.1) (.int .u8 x2))
  have OL : Hid ((K0.set q2 x2).length = 32) := Lib.hid (by rw [List.length_set, KL.out])
  generalize at_ K0 q2 = x3 at *
  clear hq2 hqm hx2b hx2 OO9 OD9 OC9 OS9 OK9 B9 B8 D2
  go_upto_region 12 with (fail)
  clear c9 f9 t1 t2 t3 hx2w hx2x
  generalize w9.setCell ⟨go, q2, none⟩ (.int .u8 x2) = wL at *
  obtain ⟨O0, hO0⟩ : ∃ O0, K0.set q2 x2 = O0 := ⟨_, rfl⟩
  rw [hO0] at OO OL
  clear hO0
  have HT := Lib.hid (HT0.out.below BL.out Z2.out)
  obtain ⟨r, hr⟩ : ∃ r, l % (m + 1) = r := ⟨_, rfl⟩
  have hrm : r ≤ m := by have := Nat.mod_lt l (show 0 < m + 1 by omega); omega
  have u1 : Int.tmod (l : Int) ((m : Int) + 1) = (r : Int) := by rw [Int.tmod_eq_emod_of_nonneg (by omega), ← hr]; simp
  have u2 : (l : Int) % ((m : Int) + 1) = (r : Int) := by rw [← hr]; simp
  have u3 : ¬ (m : Int) + 1 = 0 := by omega
  have hcs := OS.out.cap_
  have u4 : r ≤ cs := by omega
  have u5 : (r : Int) ≤ cs := by omega
  have u6 : (m : Int) < 1000 := by have := HM.out; have := HN2.out; omega
  have PK := Lib.hid OKK.out.part
  have PO := Lib.hid OO.out.part
  have PC := Lib.hid OC.out.part
  have PD := Lib.hid OD.out.part
  have PS := Lib.hid OS.out.part
  have PR := Lib.hid (Own.take_part OS.out.part SL.out hrm)
  have SRL : Hid ((SS.take r).length = r) := Lib.hid (by rw [List.length_take, SL.out]; omega)
  have SRB : Hid (Bys8 (SS.take r)) := Lib.hid (SB.out.take _)
  clear hr hrm hcs hm0 t4 OKK OO OC OD OS
  go_wp2_with (fail)
  go_loopw [19] (fun i wx => ∃ k : Nat, k ≤ 4 ∧ i = .int .i64 (k : Int) ∧ Hid (Below wL.heap.size wL wx)) (fun i _ => 4 - (intOf i).toNat)
  case atStart => exact ⟨0, by omega, rfl, Lib.hid (Below.refl _ _)⟩
  case round =>
    obtain ⟨k, hk, rfl, hbl⟩ := hrel
    rcases (by omega : k = 4 ∨ k = 0 ∨ k = 1 ∨ k = 2 ∨ k = 3) with rfl | rfl | rfl | rfl | rfl
    · have hb := BL.out.trans (hbl.out.mono BL.out.size)
      go_wp2_with (fail)
      refine (HKN.out wr hb).mono ?_
      rintro e wZ ⟨rfl, hz⟩
      go_wp2_with (fail)
      go_ret
      exact ⟨rfl, hz⟩
    · have HCO : Hid (∀ w', Below wL.heap.size wL w' → Calls Tryd.prog 31 #[.slice (some ⟨gk, 0, none⟩) 32 32, .slice (some ⟨gc, 0, none⟩) m cc] w' fun e w'' => (∃ v, e = .returned (.tuple #[v, .int .i64 (openE K0 SC)]) ∧ Own w'' wL.heap.size v (openP K0 SC)) ∧ Below wL.heap.size wL w'') := Lib.hid fun w' h => (Open_any (some ⟨gk, 0, none⟩) (some ⟨gc, 0, none⟩) 32 m cc K0 SC w' KL.out (PK.out.later h h.size) SCL.out (PC.out.later h h.size) SCB.out (HT.out.below h HT.out.lt)).mono fun e w'' hh => by
        obtain ⟨⟨v, e1, h1⟩, h2⟩ := hh
        exact ⟨⟨v, e1, Own.less h1 h.size⟩, h.trans (h2.mono h.size)⟩
      have HRO : Hid (∀ w', Below wL.heap.size wL w' → Calls Tryd.prog 32 #[.slice (some ⟨gk, 0, none⟩) 32 32, .slice (some ⟨gc, 0, none⟩) m cc] w' fun e w'' => (∃ v, e = .returned (.tuple #[v, .int .i64 (openE K0 SC)]) ∧ Own w'' w'.heap.size v (openP K0 SC)) ∧ Below w'.heap.size w' w'') := Lib.hid fun w' h => ropen_any (some ⟨gk, 0, none⟩) (some ⟨gc, 0, none⟩) 32 32 m cc K0 SC w' KL.out (by omega) (fun e => by cases e) (PK.out.later h h.size) SCL.out (PC.out.later h h.size) SCB.out
      generalize openE K0 SC = ee at *
      generalize openP K0 SC = pp at *
      have hszr : wL.heap.size ≤ wr.heap.size := hbl.out.size
      have BR := Lib.hid hbl.out
      clear hbl
      go_wp2_with (fail)
      refine (HCO.out _ (by first | exact BR.out.alloc hszr _ | exact (BR.out.alloc hszr _).drew)).mono ?_
      rintro e wA ⟨⟨vp, rfl, op⟩, bA⟩
      have OA := Lib.hid op
      have BA := Lib.hid bA
      clear op bA HCO BR hszr
      go_wp2_with (fail)
      refine (HRO.out wA BA.out).mono ?_
      rintro e wB ⟨⟨vq, rfl, oq⟩, bB⟩
      obtain ⟨sh, hsh⟩ : ∃ t, strOfNums pp = t := ⟨_, rfl⟩
      have k1 : (convert 22 9 vp).run Tryd.prog wB = .ok (.string sh) wB := by rw [← hsh]; exact conv_part (OA.out.below bB).part
      have k2 : (convert 22 9 vq).run Tryd.prog wB = .ok (.string sh) wB := by rw [← hsh]; exact conv_part oq.part
      have BB := Lib.hid (BA.out.trans (bB.mono BA.out.size))
      clear hsh oq bB OA BA HRO
      go_wp2_with (fail)
      first
        | exact ⟨⟨1, by omega, by go_num, BB⟩, by simp [intOf]⟩
        | (go_roundw
           case rel => exact ⟨1, by omega, by go_num, BB⟩
           case measure => simp [intOf])
    · have HCO : Hid (∀ w', Below wL.heap.size wL w' → Calls Tryd.prog 31 #[.slice (some ⟨gk, 0, none⟩) 32 32, .slice (some ⟨gs, 0, none⟩) r cs] w' fun e w'' => (∃ v, e = .returned (.tuple #[v, .int .i64 (openE K0 (SS.take r))]) ∧ Own w'' wL.heap.size v (openP K0 (SS.take r))) ∧ Below wL.heap.size wL w'') := Lib.hid fun w' h => (Open_any (some ⟨gk, 0, none⟩) (some ⟨gs, 0, none⟩) 32 r cs K0 (SS.take r) w' KL.out (PK.out.later h h.size) SRL.out (PR.out.later h h.size) SRB.out (HT.out.below h HT.out.lt)).mono fun e w'' hh => by
        obtain ⟨⟨v, e1, h1⟩, h2⟩ := hh
        exact ⟨⟨v, e1, Own.less h1 h.size⟩, h.trans (h2.mono h.size)⟩
      have HRO : Hid (∀ w', Below wL.heap.size wL w' → Calls Tryd.prog 32 #[.slice (some ⟨gk, 0, none⟩) 32 32, .slice (some ⟨gs, 0, none⟩) r cs] w' fun e w'' => (∃ v, e = .returned (.tuple #[v, .int .i64 (openE K0 (SS.take r))]) ∧ Own w'' w'.heap.size v (openP K0 (SS.take r))) ∧ Below w'.heap.size w' w'') := Lib.hid fun w' h => ropen_any (some ⟨gk, 0, none⟩) (some ⟨gs, 0, none⟩) 32 32 r cs K0 (SS.take r) w' KL.out (by omega) (fun e => by cases e) (PK.out.later h h.size) SRL.out (PR.out.later h h.size) SRB.out
      generalize openE K0 (SS.take r) = ee at *
      generalize openP K0 (SS.take r) = pp at *
      have hszr : wL.heap.size ≤ wr.heap.size := hbl.out.size
      have BR := Lib.hid hbl.out
      clear hbl
      go_wp2_with (fail)
      refine (HCO.out _ (by first | exact BR.out.alloc hszr _ | exact (BR.out.alloc hszr _).drew)).mono ?_
      rintro e wA ⟨⟨vp, rfl, op⟩, bA⟩
      have OA := Lib.hid op
      have BA := Lib.hid bA
      clear op bA HCO BR hszr
      go_wp2_with (fail)
      refine (HRO.out wA BA.out).mono ?_
      rintro e wB ⟨⟨vq, rfl, oq⟩, bB⟩
      obtain ⟨sh, hsh⟩ : ∃ t, strOfNums pp = t := ⟨_, rfl⟩
      have k1 : (convert 22 9 vp).run Tryd.prog wB = .ok (.string sh) wB := by rw [← hsh]; exact conv_part (OA.out.below bB).part
      have k2 : (convert 22 9 vq).run Tryd.prog wB = .ok (.string sh) wB := by rw [← hsh]; exact conv_part oq.part
      have BB := Lib.hid (BA.out.trans (bB.mono BA.out.size))
      clear hsh oq bB OA BA HRO
      go_wp2_with (fail)
      first
        | exact ⟨⟨2, by omega, by go_num, BB⟩, by simp [intOf]⟩
        | (go_roundw
           case rel => exact ⟨2, by omega, by go_num, BB⟩
           case measure => simp [intOf])
    · have HCO : Hid (∀ w', Below wL.heap.size wL w' → Calls Tryd.prog 31 #[.slice (some ⟨gk, 0, none⟩) 32 32, .slice (some ⟨gd, 0, none⟩) (m + 1) cd] w' fun e w'' => (∃ v, e = .returned (.tuple #[v, .int .i64 (openE K0 SD)]) ∧ Own w'' wL.heap.size v (openP K0 SD)) ∧ Below wL.heap.size wL w'') := Lib.hid fun w' h => (Open_any (some ⟨gk, 0, none⟩) (some ⟨gd, 0, none⟩) 32 (m + 1) cd K0 SD w' KL.out (PK.out.later h h.size) SDL.out (PD.out.later h h.size) SDB.out (HT.out.below h HT.out.lt)).mono fun e w'' hh => by
        obtain ⟨⟨v, e1, h1⟩, h2⟩ := hh
        exact ⟨⟨v, e1, Own.less h1 h.size⟩, h.trans (h2.mono h.size)⟩
      have HRO : Hid (∀ w', Below wL.heap.size wL w' → Calls Tryd.prog 32 #[.slice (some ⟨gk, 0, none⟩) 32 32, .slice (some ⟨gd, 0, none⟩) (m + 1) cd] w' fun e w'' => (∃ v, e = .returned (.tuple #[v, .int .i64 (openE K0 SD)]) ∧ Own w'' w'.heap.size v (openP K0 SD)) ∧ Below w'.heap.size w' w'') := Lib.hid fun w' h => ropen_any (some ⟨gk, 0, none⟩) (some ⟨gd, 0, none⟩) 32 32 (m + 1) cd K0 SD w' KL.out (by omega) (fun e => by cases e) (PK.out.later h h.size) SDL.out (PD.out.later h h.size) SDB.out
      generalize openE K0 SD = ee at *
      generalize openP K0 SD = pp at *
      have hszr : wL.heap.size ≤ wr.heap.size := hbl.out.size
      have BR := Lib.hid hbl.out
      clear hbl
      go_wp2_with (fail)
      refine (HCO.out _ (by first | exact BR.out.alloc hszr _ | exact (BR.out.alloc hszr _).drew)).mono ?_
      rintro e wA ⟨⟨vp, rfl, op⟩, bA⟩
      have OA := Lib.hid op
      have BA := Lib.hid bA
      clear op bA HCO BR hszr
      go_wp2_with (fail)
      refine (HRO.out wA BA.out).mono ?_
      rintro e wB ⟨⟨vq, rfl, oq⟩, bB⟩
      obtain ⟨sh, hsh⟩ : ∃ t, strOfNums pp = t := ⟨_, rfl⟩
      have k1 : (convert 22 9 vp).run Tryd.prog wB = .ok (.string sh) wB := by rw [← hsh]; exact conv_part (OA.out.below bB).part
      have k2 : (convert 22 9 vq).run Tryd.prog wB = .ok (.string sh) wB := by rw [← hsh]; exact conv_part oq.part
      have BB := Lib.hid (BA.out.trans (bB.mono BA.out.size))
      clear hsh oq bB OA BA HRO
      go_wp2_with (fail)
      first
        | exact ⟨⟨3, by omega, by go_num, BB⟩, by simp [intOf]⟩
        | (go_roundw
           case rel => exact ⟨3, by omega, by go_num, BB⟩
           case measure => simp [intOf])
    · have HCO : Hid (∀ w', Below wL.heap.size wL w' → Calls Tryd.prog 31 #[.slice (some ⟨go, 0, none⟩) 32 co, .slice (some ⟨gs, 0, none⟩) m cs] w' fun e w'' => (∃ v, e = .returned (.tuple #[v, .int .i64 (openE O0 SS)]) ∧ Own w'' wL.heap.size v (openP O0 SS)) ∧ Below wL.heap.size wL w'') := Lib.hid fun w' h => (Open_any (some ⟨go, 0, none⟩) (some ⟨gs, 0, none⟩) co m cs O0 SS w' OL.out (PO.out.later h h.size) SL.out (PS.out.later h h.size) SB.out (HT.out.below h HT.out.lt)).mono fun e w'' hh => by
        obtain ⟨⟨v, e1, h1⟩, h2⟩ := hh
        exact ⟨⟨v, e1, Own.less h1 h.size⟩, h.trans (h2.mono h.size)⟩
      have HRO : Hid (∀ w', Below wL.heap.size wL w' → Calls Tryd.prog 32 #[.slice (some ⟨go, 0, none⟩) 32 co, .slice (some ⟨gs, 0, none⟩) m cs] w' fun e w'' => (∃ v, e = .returned (.tuple #[v, .int .i64 (openE O0 SS)]) ∧ Own w'' w'.heap.size v (openP O0 SS)) ∧ Below w'.heap.size w' w'') := Lib.hid fun w' h => ropen_any (some ⟨go, 0, none⟩) (some ⟨gs, 0, none⟩) 32 co m cs O0 SS w' OL.out (by omega) (fun e => by cases e) (PO.out.later h h.size) SL.out (PS.out.later h h.size) SB.out
      generalize openE O0 SS = ee at *
      generalize openP O0 SS = pp at *
      have hszr : wL.heap.size ≤ wr.heap.size := hbl.out.size
      have BR := Lib.hid hbl.out
      clear hbl
      go_wp2_with (fail)
      refine (HCO.out _ (by first | exact BR.out.alloc hszr _ | exact (BR.out.alloc hszr _).drew)).mono ?_
      rintro e wA ⟨⟨vp, rfl, op⟩, bA⟩
      have OA := Lib.hid op
      have BA := Lib.hid bA
      clear op bA HCO BR hszr
      go_wp2_with (fail)
      refine (HRO.out wA BA.out).mono ?_
      rintro e wB ⟨⟨vq, rfl, oq⟩, bB⟩
      obtain ⟨sh, hsh⟩ : ∃ t, strOfNums pp = t := ⟨_, rfl⟩
      have k1 : (convert 22 9 vp).run Tryd.prog wB = .ok (.string sh) wB := by rw [← hsh]; exact conv_part (OA.out.below bB).part
      have k2 : (convert 22 9 vq).run Tryd.prog wB = .ok (.string sh) wB := by rw [← hsh]; exact conv_part oq.part
      have BB := Lib.hid (BA.out.trans (bB.mono BA.out.size))
      clear hsh oq bB OA BA HRO
      go_wp2_with (fail)
      first
        | exact ⟨⟨4, by omega, by go_num, BB⟩, by simp [intOf]⟩
        | (go_roundw
           case rel => exact ⟨4, by omega, by go_num, BB⟩
           case measure => simp [intOf])
end Go.Proofs.YtdjfklllfbenjaaDoor
