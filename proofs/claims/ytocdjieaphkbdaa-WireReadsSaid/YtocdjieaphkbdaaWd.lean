/- Package wire: folded, appendGroups. -/
import Derived.Test.YtocdjieaphkbdaaWc
namespace Go.Proofs.Ytocdjieaphkbdaa
open Go.RowKit

theorem folded_any {n : Int} {w : World} (h1 : -9223372036854775808 ≤ n) (h2 : n ≤ 9223372036854775807) :
    Calls Try.prog 70 #[.int .i64 n] w fun r w' => r = .returned (.int .u64 (fold n)) ∧ w' = w := by
  by_cases g : n < 0
  · have e1 : wrap64 (n + 1) = n + 1 := by unfold wrap64; omega
    have e2 : wrap64 (-(n + 1)) = -(n + 1) := by unfold wrap64; omega
    have e3 : IntKind.u64.wrap (-(n + 1)) = -(n + 1) := by rw [IntKind.wrap_u64]; omega
    have HF : Hid ((fold n : Int) = 2 * (-(n + 1)) + 1) := Lib.hid (by unfold fold; rw [if_pos g]; omega)
    go_enter Try.func70, Try.ntmps70
    go_wp2_with (fail)
    rw [HF.out]
    go_ret
    exact ⟨rfl, rfl⟩
  · have e3 : IntKind.u64.wrap n = n := by rw [IntKind.wrap_u64]; omega
    have HF : Hid ((fold n : Int) = 2 * n) := Lib.hid (by unfold fold; rw [if_neg g]; omega)
    go_enter Try.func70, Try.ntmps70
    go_wp2_with (fail)
    rw [HF.out]
    go_ret
    exact ⟨rfl, rfl⟩
theorem or8 : ∀ x : BitVec 8, (x ||| 128#8).toNat = x.toNat % 128 + 128 := by decide +kernel
theorem or128 (m : Nat) : bits .or .u8 ((m : Int) % 256) 128 = ((m % 128 + 128 : Nat) : Int) := by
  show IntKind.u8.wrap ((BitVec.ofInt 8 ((m : Int) % 256) ||| BitVec.ofInt 8 128).toNat : Nat) = _
  rw [show BitVec.ofInt 8 128 = 128#8 from rfl, or8, IntKind.wrap_u8, BitVec.toNat_ofInt]
  omega
set_option maxRecDepth 100000 in
set_option maxHeartbeats 2000000 in
theorem group_any {w : World} {B n : Nat} {v : Value} {ds : List Int} (h : Ow 5 .u8 w B v ds) (hB : B ≤ w.heap.size) (hn : n < 18446744073709551616) (hl : ds.length < 100000000) :
    Calls Try.prog 69 #[v, .int .u64 n] w fun r w' => ∃ v', r = .returned v' ∧ Ow 5 .u8 w' B v' (ds ++ grp n) ∧ Ch (Of v) w w' ∧ Mv w v v' := by
  have HO : Hid (Ow 5 .u8 w B v ds) := Lib.hid h
  have HC : Hid (Ch (Of v) w w) := Lib.hid (Ch.refl _ _)
  have HM : Hid (Mv w v v) := Lib.hid (Mv.refl _ _)
  have HB := Lib.hid hB
  have HL := Lib.hid hl
  clear h hB hl
  go_enter Try.func69, Try.ntmps69
  go_wp2_with (fail)
  go_loopw [0, 1] (fun u i wx => ∃ (m : Nat) (es : List Int), i = .int .u64 m ∧ m ≤ n ∧ Hid (es ++ grp m = ds ++ grp n) ∧ Hid (Ow 5 .u8 wx B u es) ∧ Hid (Ch (Of v) w wx) ∧ Hid (Mv w v u)) (fun _ i _ => (intOf i).toNat)
  case atStart => exact ⟨n, ds, rfl, Nat.le_refl _, Lib.hid rfl, HO, HC, HM⟩
  case round =>
    obtain ⟨m, es, rfl, hm, he, ho, hc, hmv⟩ := hrel
    clear HO HC HM
    have HM := Lib.hid hm
    have hsz : B ≤ wr.heap.size := Nat.le_trans HB.out hc.out.size
    have HA : Hid (∀ z, Ow 5 .u8 (wr.alloc (.cells #[.int .u8 z] 5)) B u0 es) := Lib.hid fun z => ho.out.no (Ch.new wr _)
    have HL1 : Hid (es.length < 200000000) := Lib.hid (by
      have h1 := congrArg List.length he.out
      rw [List.length_append, List.length_append] at h1
      have h2 := grp_len10 hn
      have h3 := HL.out
      omega)
    clear ho
    by_cases g : m < 128
    · have gI : ¬ (m : Int) ≥ 128 := by omega
      have hw : IntKind.u8.wrap (m : Int) = m := by rw [IntKind.wrap_u8]; omega
      have hw2 : (m : Int) % 256 = m := by omega
      clear hm
      go_wp2_with (at_builtin; refine app rfl _ _ _ rfl Try.underlying28 infoU8 (by decide) rfl rfl (HA.out _) (by simp; omega) (fun i => i = wr.heap.size) [(m : Int)] (Rw.one rfl (by rw [World.cell?_alloc_at _ _ _ _ rfl]; rfl)) (by have := HL1.out; simp; omega) ?_)
      intro x' w1 o1 k1 m1
      go_wp2_with (fail)
      go_ret
      refine ⟨_, rfl, ?_, (hc.out.then (Ch.new wr _)).trans k1 (fun i hi h => hmv.out.of hi h), hmv.out.trans m1 (Nat.le_trans hc.out.size (by simp))⟩
      rw [← he.out, grp_lt g]
      exact o1
    · have gI : (m : Int) ≥ 128 := by omega
      have hor := or128 m
      have HN : Hid ((es ++ [((m % 128 + 128 : Nat) : Int)]) ++ grp (m / 128) = ds ++ grp n) := Lib.hid (by rw [← he.out, grp_ge (n := m) (by omega)]; simp)
      obtain ⟨z, hz⟩ : ∃ z : Int, ((m % 128 + 128 : Nat) : Int) = z := ⟨_, rfl⟩
      rw [hz] at hor HN
      clear hm hz
      go_wp2_with (at_builtin; refine app rfl _ _ _ rfl Try.underlying28 infoU8 (by decide) rfl rfl (HA.out _) (by simp; omega) (fun i => i = wr.heap.size) [z] (Rw.one rfl (by rw [World.cell?_alloc_at _ _ _ _ rfl]; rfl)) (by have := HL1.out; simp; omega) ?_)
      intro x' w1 o1 k1 m1
      have O1 := Lib.hid o1
      have K1 : Hid (Ch (Of v) w w1) := Lib.hid ((hc.out.then (Ch.new wr _)).trans k1 (fun i hi h => hmv.out.of hi h))
      have M1 : Hid (Mv w v x') := Lib.hid (hmv.out.trans m1 (Nat.le_trans hc.out.size (by simp)))
      clear o1 k1 m1 hc hmv HA HL1 he hsz
      go_wp2_with (fail)
      go_roundw
      case rel => exact ⟨m / 128, _, by go_num, by have := HM.out; omega, HN, O1, K1, M1⟩
      case measure => simp [intOf]; omega
end Go.Proofs.Ytocdjieaphkbdaa
