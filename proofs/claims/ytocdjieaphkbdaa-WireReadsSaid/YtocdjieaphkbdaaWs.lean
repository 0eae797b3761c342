/- The reference of wire: what is written. -/
import Derived.Test.YtocdjieaphkbdaaWr
namespace Go.Proofs.Ytocdjieaphkbdaa
open Go.RowKit

theorem refFold_any {n : Int} {w : World} (h1 : -9223372036854775808 ≤ n) (h2 : n ≤ 9223372036854775807) :
    Calls Try.prog 37 #[.int .i64 n] w fun r w' => r = .returned (.int .u64 (fold n)) ∧ w' = w := by
  by_cases g : n < 0
  · have g' : ¬ n ≥ 0 := by omega
    have e1 : wrap64 (n + 1) = n + 1 := by unfold wrap64; omega
    have e2 : wrap64 (-(n + 1)) = -(n + 1) := by unfold wrap64; omega
    have e3 : IntKind.u64.wrap (-(n + 1)) = -(n + 1) := by rw [IntKind.wrap_u64]; omega
    have HF : Hid ((fold n : Int) = -(n + 1) * 2 + 1) := Lib.hid (by unfold fold; rw [if_pos g]; omega)
    go_enter Try.func37, Try.ntmps37
    go_wp2_with (fail)
    rw [HF.out]
    go_ret
    exact ⟨rfl, rfl⟩
  · have g' : n ≥ 0 := by omega
    have e3 : IntKind.u64.wrap n = n := by rw [IntKind.wrap_u64]; omega
    have HF : Hid ((fold n : Int) = n * 2) := Lib.hid (by unfold fold; rw [if_neg g]; omega)
    go_enter Try.func37, Try.ntmps37
    go_wp2_with (fail)
    rw [HF.out]
    go_ret
    exact ⟨rfl, rfl⟩
set_option maxRecDepth 100000 in
set_option maxHeartbeats 2000000 in
theorem refGroup_any {w : World} {n : Nat} (hn : n < 18446744073709551616) :
    Calls Try.prog 36 #[.int .u64 n] w fun r w' => ∃ v', r = .returned v' ∧ Ow 5 .u8 w' w.heap.size v' (grp n) ∧ Ch No w w' := by
  have HO : Hid (Ow 5 .u8 w w.heap.size (.slice none 0 0) []) := Lib.hid Ow.nil_
  have HC : Hid (Ch No w w) := Lib.hid (Ch.refl _ _)
  go_enter Try.func36, Try.ntmps36
  go_wp2_with (fail)
  go_loopw [0, 3] (fun i u wx => ∃ (m : Nat) (es : List Int), i = .int .u64 m ∧ m ≤ n ∧ Hid (es ++ grp m = grp n) ∧ Hid (Ow 5 .u8 wx w.heap.size u es) ∧ Hid (Ch No w wx)) (fun i _ _ => (intOf i).toNat)
  case atStart => exact ⟨n, [], rfl, Nat.le_refl _, Lib.hid rfl, HO, HC⟩
  case round =>
    obtain ⟨m, es, rfl, hm, he, ho, hc⟩ := hrel
    clear HO HC
    have HM := Lib.hid hm
    have hsz : w.heap.size ≤ wr.heap.size := hc.out.size
    have HA : Hid (∀ z, Ow 5 .u8 (wr.alloc (.cells #[.int .u8 z] 5)) w.heap.size u3 es) := Lib.hid fun z => ho.out.no (Ch.new wr _)
    have HL1 : Hid (es.length < 200000000) := Lib.hid (by
      have h1 := congrArg List.length he.out
      rw [List.length_append] at h1
      have h2 := grp_len10 hn
      omega)
    clear ho
    by_cases g : m < 128
    · have gI : ¬ (m : Int) ≥ 128 := by omega
      have hw2 : (m : Int) % 256 = m := by omega
      clear hm
      go_wp2_with (at_builtin; refine app rfl _ _ _ rfl Try.underlying28 infoU8 (by decide) rfl rfl (HA.out _) (by simp; omega) (fun i => i = wr.heap.size) [(m : Int)] (Rw.one rfl (by rw [World.cell?_alloc_at _ _ _ _ rfl]; rfl)) (by have := HL1.out; simp; omega) ?_)
      intro x' w1 o1 k1 m1
      go_wp2_with (fail)
      go_ret
      refine ⟨_, rfl, ?_, (hc.out.then (Ch.new wr _)).trans k1 (fun i hi h => by have := ((HA.out (m : Int)).lt h).1; omega)⟩
      rw [← he.out, grp_lt g]
      exact o1
    · have gI : (m : Int) ≥ 128 := by omega
      have HN : Hid ((es ++ [((m % 128 + 128 : Nat) : Int)]) ++ grp (m / 128) = grp n) := Lib.hid (by rw [← he.out, grp_ge (n := m) (by omega)]; simp)
      have hz1 : IntKind.u8.wrap ((m : Int) % 128) = (m : Int) % 128 := by rw [IntKind.wrap_u8]; omega
      have hm6 : (m : Int) ≤ 18446744073709551615 := by omega
      have HZ : Hid ((m : Int) % 128 + 128 = ((m % 128 + 128 : Nat) : Int)) := Lib.hid (by omega)
      clear hm
      go_wp2_with (at_builtin; refine app rfl _ _ _ rfl Try.underlying28 infoU8 (by decide) rfl rfl (HA.out _) (by simp; omega) (fun i => i = wr.heap.size) [_] (Rw.one rfl (by rw [World.cell?_alloc_at _ _ _ _ rfl]; rfl)) (by have := HL1.out; simp; omega) ?_)
      intro x' w1 o1 k1 m1
      rw [HZ.out] at o1
      have O1 := Lib.hid o1
      have K1 : Hid (Ch No w w1) := Lib.hid ((hc.out.then (Ch.new wr _)).trans k1 (fun i hi h => by have := ((HA.out (m : Int)).lt h).1; omega))
      clear o1 k1 m1 hc HA HL1 he hsz HZ hz1
      go_wp2_with (fail)
      go_roundw
      case rel => exact ⟨m / 128, _, by go_num, by have := HM.out; omega, HN, O1, K1⟩
      case measure => simp [intOf]; omega
set_option maxRecDepth 100000 in
theorem refString_any {w : World} {P : Nat → Prop} {n c : Nat} {A : Option Addr} {bs : List Int} (hb : Rw w P .u8 (.slice A n c) bs) (hn : bs.length = n) (hl : n < 1000000) :
    Calls Try.prog 40 #[.slice A n c] w fun r w' => ∃ v', r = .returned v' ∧ Ow 5 .u8 w' w.heap.size v' (grp n ++ bs) ∧ Ch No w w' := by
  have HG := Lib.hid (refGroup_any (w := w) (n := n) (by omega))
  have HL : Hid ((grp n).length < 1000 ∧ bs.length < 1000000) := Lib.hid ⟨by have := grp_len10 (n := n) (by omega); omega, by omega⟩
  have hw : IntKind.u64.wrap (n : Int) = n := by rw [IntKind.wrap_u64]; omega
  have HB := Lib.hid hb
  clear hb hn
  go_enter Try.func40, Try.ntmps40
  go_wp2_with (fail)
  refine HG.out.mono ?_
  rintro r w1 ⟨v1, rfl, o1, k1⟩
  have O1 := Lib.hid o1
  have K1 := Lib.hid k1
  have HB1 := Lib.hid (HB.out.ch k1 fun _ _ _ h => h)
  clear o1 k1 HG HB
  go_wp2_with (at_builtin; refine app rfl _ _ _ rfl Try.underlying28 infoU8 (by decide) rfl rfl O1.out K1.out.size P bs HB1.out (by have := HL.out; omega) ?_)
  intro v4 w4 o4 k4 m4
  have O4 := Lib.hid o4
  have K4 := Lib.hid (show Ch No w w4 from K1.out.trans k4 fun i hi h => by have := (O1.out.lt h).1; omega)
  clear o4 k4 m4
  go_wp2_with (fail)
  go_ret
  exact ⟨_, rfl, O4.out, K4.out⟩
set_option maxRecDepth 100000 in
set_option maxHeartbeats 2000000 in
theorem refInts_any {w : World} {P : Nat → Prop} {n c : Nat} {A : Option Addr} {l : List Int} (hb : Rw w P .i64 (.slice A n c) l) (hn : l.length = n) (hl : I64s l) (h6 : n ≤ 1000) :
    Calls Try.prog 45 #[.slice A n c] w fun r w' => ∃ v', r = .returned v' ∧ Ow 5 .u8 w' w.heap.size v' (grp n ++ intsL l) ∧ Ch No w w' := by
  have HG := Lib.hid (refGroup_any (w := w) (n := n) (by omega))
  have HL : Hid ((grp n).length < 1000 ∧ ∀ k, (intsL (l.take k)).length ≤ 1000000) := Lib.hid ⟨by have := grp_len10 (n := n) (by omega); omega, fun k => by
    have := intsL_len (l.take k) fun z hz => hl z (List.mem_of_mem_take hz)
    rw [List.length_take] at this
    omega⟩
  have hw : IntKind.u64.wrap (n : Int) = n := by rw [IntKind.wrap_u64]; omega
  have HB := Lib.hid hb
  have HN := Lib.hid hn
  have HI := Lib.hid hl
  have H6 := Lib.hid h6
  clear hb hn hl h6
  go_enter Try.func45, Try.ntmps45
  go_wp2_with (fail)
  refine HG.out.mono ?_
  rintro r w1 ⟨v1, rfl, o1, k1⟩
  have O1 : Hid (Ow 5 .u8 w1 w.heap.size v1 (grp n ++ intsL (l.take 0))) := Lib.hid (by rw [List.take_zero]; simpa [intsL] using o1)
  have K1 := Lib.hid k1
  clear o1 k1 HG
  go_wp2_with (fail)
  go_loopw [3, 4] (fun u i wx => ∃ k : Nat, i = .int .i64 k ∧ k ≤ n ∧ Hid (Ow 5 .u8 wx w.heap.size u (grp n ++ intsL (l.take k))) ∧ Hid (Ch No w wx)) (fun _ i _ => n - (intOf i).toNat)
  case atStart => exact ⟨0, rfl, Nat.zero_le _, O1, K1⟩
  case round =>
    obtain ⟨k, rfl, hk, ho, hc⟩ := hrel
    clear O1 K1
    by_cases g : k < n
    · have gI : (k : Int) < n := by omega
      have gN : n ≤ 1000 := H6.out
      obtain ⟨b, o, rfl, hPb, hbl, hcl⟩ := HB.out.at (by rw [HN.out]; omega)
      have c2 := hc.out.cell (hcl k (by rw [HN.out]; exact g)) (fun h => h)
      obtain ⟨i1, i2⟩ := HI.out.at (k := k) (by rw [HN.out]; exact g)
      have HT := Lib.hid (intsL_take (l := l) (k := k) (by rw [HN.out]; exact g))
      obtain ⟨z, hz⟩ : ∃ z, at_ l k = z := ⟨_, rfl⟩
      rw [hz] at c2 i1 i2 HT
      have HFo := Lib.hid (refFold_any (w := wr) i1 i2)
      have HGr := Lib.hid (refGroup_any (w := wr) (n := fold z) (fold_lt i1 i2))
      have HO := ho
      have HC := hc
      have HF10 := Lib.hid (grp_len10 (fold_lt i1 i2))
      clear hcl hz ho hc i1 i2
      go_wp2_with (fail)
      refine HFo.out.mono ?_
      rintro e w4 ⟨rfl, hw4⟩
      rw [hw4]
      clear hw4
      go_wp2_with (fail)
      refine HGr.out.mono ?_
      rintro e w5 ⟨v5, rfl, o5, k5⟩
      have O5 := Lib.hid (HO.out.no k5)
      have R5 := Lib.hid (o5.rw_)
      have K5 := Lib.hid (HC.out.then k5)
      clear o5 k5 HFo HGr HO HC
      go_wp2_with (at_builtin; refine app rfl _ _ _ rfl Try.underlying28 infoU8 (by decide) rfl rfl O5.out K5.out.size _ _ R5.out (by have := HL.out.1; have := HL.out.2 k; have := HF10.out; rw [List.length_append]; omega) ?_)
      intro v6 w6 o6 k6 m6
      have O6 : Hid (Ow 5 .u8 w6 w.heap.size v6 (grp n ++ intsL (l.take (k + 1)))) := Lib.hid (by rw [HT.out, ← List.append_assoc]; simpa only [List.append_assoc] using o6)
      have K6 : Hid (Ch No w w6) := Lib.hid (K5.out.trans k6 fun i hi h => by have := (O5.out.lt h).1; omega)
      clear o6 k6 m6 O5 R5 K5 HT c2
      go_wp2_with (fail)
      go_roundw
      case rel => exact ⟨k + 1, by go_num, by omega, O6, K6⟩
      case measure => simp [intOf]; omega
    · obtain rfl : k = n := by omega
      have HO : Hid (Ow 5 .u8 wr w.heap.size u3 (grp k ++ intsL l)) := Lib.hid (by
        have e1 : l.take k = l := List.take_of_length_le (by rw [HN.out]; exact Nat.le_refl _)
        have := ho.out
        rwa [e1] at this)
      have HC := hc
      clear ho hc
      go_wp2_with (fail)
      go_ret
      exact ⟨_, rfl, HO.out, HC.out⟩
end Go.Proofs.Ytocdjieaphkbdaa
