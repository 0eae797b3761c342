/- The reference: G. -/
import Derived.Test.YtdjfklllfbenjaaDoorBo
namespace Go.Proofs.YtdjfklllfbenjaaDoor
open Go.RowKit

theorem cell_off {w : World} {p i j : Nat} {v u : Value} (h : w.cell? ⟨p, j, none⟩ = some u) (hn : i ≠ j) : (w.setCell ⟨p, i, none⟩ v).cell? ⟨p, j, none⟩ = some u := by
  rw [World.cell?_setCell_other]
  · exact h
  · intro e; have := congrArg Addr.off e; simp at this; omega
set_option maxRecDepth 100000 in
set_option maxHeartbeats 2000000 in
/-- G of the words at (a, b, c, d). -/
theorem g_any {w : World} (p q a b c d cv cl : Nat) (vs : List Int) (x y : Int) (hc : ∀ k, k < 16 → w.cell? ⟨p, k, none⟩ = some (.int .u32 (at_ vs k))) (hf : ∀ k, k < 16 → w.frozen? ⟨p, k, none⟩ = false) (hpq : q ≠ p)
    (l0 : w.cell? ⟨q, 0, none⟩ = some (.int .i64 (a : Int))) (l1 : w.cell? ⟨q, 1, none⟩ = some (.int .i64 (b : Int))) (l2 : w.cell? ⟨q, 2, none⟩ = some (.int .i64 (c : Int))) (l3 : w.cell? ⟨q, 3, none⟩ = some (.int .i64 (d : Int)))
    (ha : a < 16) (hb : b < 16) (hcc : c < 16) (hd : d < 16) (hab : a ≠ b) (hac : a ≠ c) (had : a ≠ d) (hbc : b ≠ c) (hbd : b ≠ d) (hcd : c ≠ d) :
    Calls Tryd.prog 50 #[.slice (some ⟨p, 0, none⟩) 16 cv, .slice (some ⟨q, 0, none⟩) 4 cl, .int .u32 x, .int .u32 y] w fun e w' => e = .returned (.tuple #[]) ∧
      ∃ n, w' = (((((w.drewN n).setCell ⟨p, a, none⟩ (.int .u32 (gq (at_ vs a) (at_ vs b) (at_ vs c) (at_ vs d) x y).a)).setCell ⟨p, b, none⟩ (.int .u32 (gq (at_ vs a) (at_ vs b) (at_ vs c) (at_ vs d) x y).b)).setCell ⟨p, c, none⟩ (.int .u32 (gq (at_ vs a) (at_ vs b) (at_ vs c) (at_ vs d) x y).c)).setCell ⟨p, d, none⟩ (.int .u32 (gq (at_ vs a) (at_ vs b) (at_ vs c) (at_ vs d) x y).d)) := by
  have ca := hc a ha
  have cb := hc b hb
  have cc := hc c hcc
  have cd := hc d hd
  have fa := hf a ha
  have fb := hf b hb
  have fc := hf c hcc
  have fd := hf d hd
  have ia : (a : Int) < 16 := by omega
  have ib : (b : Int) < 16 := by omega
  have ic : (c : Int) < 16 := by omega
  have id : (d : Int) < 16 := by omega
  obtain ⟨A0, HA0⟩ : ∃ z, at_ vs a = z := ⟨_, rfl⟩
  obtain ⟨B0, HB0⟩ : ∃ z, at_ vs b = z := ⟨_, rfl⟩
  obtain ⟨C0, HC0⟩ : ∃ z, at_ vs c = z := ⟨_, rfl⟩
  obtain ⟨D0, HD0⟩ : ∃ z, at_ vs d = z := ⟨_, rfl⟩
  rw [HA0] at ca ⊢
  rw [HB0] at cb ⊢
  rw [HC0] at cc ⊢
  rw [HD0] at cd ⊢
  have HAB := Lib.hid hab
  have HAC := Lib.hid hac
  have HAD := Lib.hid had
  have HBC := Lib.hid hbc
  have HBD := Lib.hid hbd
  have HCD := Lib.hid hcd
  clear hab hac had hbc hbd hcd
  clear hc hf HA0 HB0 HC0 HD0
  go_enter Tryd.func50, Tryd.ntmps50
  go_wp2_with (fail)
  go_quiet (fail)
  go_wp2_with (fail)
  obtain ⟨A1, HA1⟩ : ∃ z, ((A0 + B0) % 4294967296 + x) % 4294967296 = z := ⟨_, rfl⟩
  have HA1' : (A0 + B0 + x) % 4294967296 = A1 := by rw [← HA1]; omega
  rw [HA1', HA1]
  clear HA1'
  replace HA1 := Lib.hid HA1
  refine (right16_any _ _).mono ?_
  rintro e wA1 ⟨rfl, nA1, rfl⟩
  obtain ⟨D1, HD1⟩ : ∃ z, rt16 (bits .xor .u32 D0 A1) = z := ⟨_, rfl⟩
  rw [HD1]
  replace HD1 := Lib.hid HD1
  go_wp2_with (fail)
  obtain ⟨C1, HC1⟩ : ∃ z, (C0 + D1) % 4294967296 = z := ⟨_, rfl⟩
  rw [HC1]
  replace HC1 := Lib.hid HC1
  refine (right12_any _ _).mono ?_
  rintro e wC1 ⟨rfl, nC1, rfl⟩
  obtain ⟨B1, HB1⟩ : ∃ z, rt12 (bits .xor .u32 B0 C1) = z := ⟨_, rfl⟩
  rw [HB1]
  replace HB1 := Lib.hid HB1
  go_wp2_with (fail)
  obtain ⟨A2, HA2⟩ : ∃ z, ((A1 + B1) % 4294967296 + y) % 4294967296 = z := ⟨_, rfl⟩
  have HA2' : (A1 + B1 + y) % 4294967296 = A2 := by rw [← HA2]; omega
  rw [HA2', HA2]
  clear HA2'
  replace HA2 := Lib.hid HA2
  refine (right8_any _ _).mono ?_
  rintro e wA2 ⟨rfl, nA2, rfl⟩
  obtain ⟨D2, HD2⟩ : ∃ z, rt8 (bits .xor .u32 D1 A2) = z := ⟨_, rfl⟩
  rw [HD2]
  replace HD2 := Lib.hid HD2
  go_wp2_with (fail)
  obtain ⟨C2, HC2⟩ : ∃ z, (C1 + D2) % 4294967296 = z := ⟨_, rfl⟩
  rw [HC2]
  replace HC2 := Lib.hid HC2
  refine (right7_any _ _).mono ?_
  rintro e wC2 ⟨rfl, nC2, rfl⟩
  obtain ⟨B2, HB2⟩ : ∃ z, rt7 (bits .xor .u32 B1 C2) = z := ⟨_, rfl⟩
  rw [HB2]
  replace HB2 := Lib.hid HB2
  have HG : gq A0 B0 C0 D0 x y = ⟨A2, B2, C2, D2⟩ := by
    have e1 : gA A0 B0 x = A1 := by rw [← HA1.out]; unfold gA; omega
    have e2 : gA A1 B1 y = A2 := by rw [← HA2.out]; unfold gA; omega
    simp only [gq, ad, xo, e1, HD1.out, HC1.out, HB1.out, e2, HD2.out, HC2.out, HB2.out]
  replace HG := Lib.hid HG
  go_wp2_with (fail)
  have k1 : ∀ N, ((w.drewN N).setCell ⟨p, a, none⟩ (.int .u32 A2)).cell? ⟨p, b, none⟩ = some (.int .u32 B0) := fun N => cell_off (show (w.drewN N).cell? _ = _ from cb) HAB.out
  have k2 : ∀ N, (((w.drewN N).setCell ⟨p, a, none⟩ (.int .u32 A2)).setCell ⟨p, b, none⟩ (.int .u32 B2)).cell? ⟨p, c, none⟩ = some (.int .u32 C0) := fun N => cell_off (cell_off (show (w.drewN N).cell? _ = _ from cc) HAC.out) HBC.out
  have k3 : ∀ N, ((((w.drewN N).setCell ⟨p, a, none⟩ (.int .u32 A2)).setCell ⟨p, b, none⟩ (.int .u32 B2)).setCell ⟨p, c, none⟩ (.int .u32 C2)).cell? ⟨p, d, none⟩ = some (.int .u32 D0) := fun N => cell_off (cell_off (cell_off (show (w.drewN N).cell? _ = _ from cd) HAD.out) HBD.out) HCD.out
  go_region
  go_end0
  exact ⟨rfl, _, by rw [HG.out]⟩
end Go.Proofs.YtdjfklllfbenjaaDoor
