/- SealLimits: the walk. -/
import Derived.Test.YtdjfklllfbenjaaDoorEm
import Derived.Deep.RegionWith
import Derived.BigQuiet
namespace Go.Proofs.YtdjfklllfbenjaaDoor
open Go.RowKit

/-- make([]byte, n), as a function of the world. -/
theorem mk_ex (n : Nat) (hn : n < 1000000000000) : ∃ MK : World → World, ∀ w : World, (Instr.makeSlice 22 (.int .i64 (n : Int)) (.int .i64 (n : Int))).run Tryd.prog w = .ok (.slice (some ⟨w.heap.size, 0, none⟩) n n) (MK w) ∧ Own (MK w) w.heap.size (.slice (some ⟨w.heap.size, 0, none⟩) n n) (List.replicate n 0) ∧ Below w.heap.size w (MK w) := by
  obtain ⟨i0, hi, hz0, hz1, hz2⟩ := info_parts infoZU8
  have h : ∀ w : World, ∃ w' : World, (Instr.makeSlice 22 (.int .i64 (n : Int)) (.int .i64 (n : Int))).run Tryd.prog w = .ok (.slice (some ⟨w.heap.size, 0, none⟩) n n) w' ∧ Own w' w.heap.size (.slice (some ⟨w.heap.size, 0, none⟩) n n) (List.replicate n 0) ∧ Below w.heap.size w w' := by
    intro w
    obtain ⟨w', hrun, r1, r2⟩ := run_make_full (P := Tryd.prog) w w.heap.size 22 5 i0 (.int .u8 0) 1 Tryd.underlying22 hi hz0 hz1 .i64 .i64 n (by rw [hz2]; omega) (by unfold maxLen; omega) (Nat.le_refl _)
    have e : (madeCells (Value.cells (.int .u8 0)) (n * 1)).toList = (List.replicate n (0 : Int)).map (Value.int .u8) := by
      rw [Nat.mul_one]
      exact (toList_madeCells_one (.int .u8 0) n).trans (by simp)
    rw [e] at r1
    refine ⟨w', hrun, ?_, (Below.refl w.heap.size w).grown r2 (Nat.le_refl _) fun k hk => by cases hk⟩
    unfold Own
    rw [List.length_replicate]
    exact r1
  exact ⟨fun w => Classical.choose (h w), fun w => Classical.choose_spec (h w)⟩
theorem zeros_by (n : Nat) : Bys8 (List.replicate n 0) := fun x hx => by rw [List.eq_of_mem_replicate hx]; exact ⟨by decide, by decide⟩
set_option maxRecDepth 100000 in
set_option maxHeartbeats 8000000 in
theorem limits_any (zn : Int) (w : World) (htab : Tabs w) : Calls Tryd.prog 13 #[.int .i64 zn] w fun e w' => e = .returned (.bool true) ∧ Below w.heap.size w w' := by
  have HKN : Hid (∀ w', Below w.heap.size w w' → Calls Tryd.prog 23 #[] w' fun e w'' => e = .returned (.bool true) ∧ Below w.heap.size w w'') := Lib.hid fun w' h => (sknown_any w' (htab.below h htab.lt)).mono fun e w'' hh => ⟨hh.1, h.trans (hh.2.mono h.size)⟩
  have HT := Lib.hid htab
  have Z2 : Hid (2 ≤ w.heap.size) := Lib.hid htab.lt
  clear htab
  by_cases g1 : zn < 65490
  · go_enter Tryd.func13, Tryd.ntmps13
    go_wp2_with (fail)
    refine (HKN.out w (Below.refl _ _)).mono ?_
    rintro e w1 ⟨rfl, h1⟩
    go_wp2_with (fail)
    go_ret
    exact ⟨rfl, h1⟩
  by_cases g2 : 65550 < zn
  · go_enter Tryd.func13, Tryd.ntmps13
    go_wp2_with (fail)
    refine (HKN.out w (Below.refl _ _)).mono ?_
    rintro e w1 ⟨rfl, h1⟩
    go_wp2_with (fail)
    go_ret
    exact ⟨rfl, h1⟩
  obtain ⟨n, rfl⟩ : ∃ n : Nat, zn = n := ⟨zn.toNat, by omega⟩
  have HN : Hid (65490 ≤ n ∧ n ≤ 65550) := Lib.hid (by omega)
  have HC1 := Lib.hid (key_any none 0 0 [] w rfl (PartAt.nil_ _ _))
  go_enter Tryd.func13, Tryd.ntmps13
  go_wp2_with (fail)
  clear g1 g2
  refine HC1.out.mono ?_
  rintro e w1 ⟨⟨gk, rfl, o1⟩, b1⟩
  have PK := Lib.hid o1.part
  have B1 := Lib.hid b1
  have HT1 := Lib.hid (HT.out.below b1 HT.out.lt)
  clear o1 b1 HC1
  obtain ⟨K0, hK0⟩ : ∃ K0, keyOf [] = K0 := ⟨_, rfl⟩
  have KL : Hid (K0.length = 32) := Lib.hid (by rw [← hK0]; exact keyOf_len _)
  rw [hK0] at PK
  clear hK0
  obtain ⟨MN, hMN⟩ := mk_ex n (by have := HN.out; omega)
  have HMN := Lib.hid hMN
  have ZL : Hid ((List.replicate n (0 : Int)).length = n) := Lib.hid List.length_replicate
  obtain ⟨zz, hzz⟩ : ∃ zz, List.replicate n (0 : Int) = zz := ⟨_, rfl⟩
  have ZB : Hid (Bys8 zz) := Lib.hid (by rw [← hzz]; exact zeros_by n)
  have HZZ := Lib.hid hzz
  rw [hzz] at HMN ZL
  clear hMN hzz
  -- Seal
  obtain ⟨m, ee, hme⟩ : ∃ (m : Nat) (ee : Int), (n ≤ 65504 ∧ m = n + 32 ∧ ee = 0) ∨ (65504 < n ∧ m = 0 ∧ ee = 2) := by
    by_cases h : n ≤ 65504
    · exact ⟨_, _, .inl ⟨h, rfl, rfl⟩⟩
    · exact ⟨_, _, .inr ⟨by omega, rfl, rfl⟩⟩
  have HME := Lib.hid hme
  clear hme
  have hmk : (Instr.makeSlice 22 (.int .i64 (n : Int)) (.int .i64 (n : Int))).run Tryd.prog w1.drew = .ok (.slice (some ⟨w1.heap.size, 0, none⟩) n n) (MN w1.drew) := (HMN.out w1.drew).1
  have hb2 : Below w1.heap.size w1 (MN w1.drew) := (Below.refl _ _).drew.trans (HMN.out w1.drew).2.2
  have HSEAL : Hid (Calls Tryd.prog 29 #[.slice (some ⟨gk, 0, none⟩) 32 32, .slice (some ⟨gk, 0, none⟩) 16 32, .slice (some ⟨w1.heap.size, 0, none⟩) n n] (MN w1.drew) fun e w'' => (∃ A c, e = .returned (.tuple #[.slice A m c, .int .i64 ee])) ∧ Below w1.heap.size w1 w'') := Lib.hid (by
    rcases HME.out with ⟨h1, h2, h3⟩ | ⟨h1, h2, h3⟩
    · subst h2 h3
      refine (Seal_ok (some ⟨gk, 0, none⟩) (some ⟨gk, 0, none⟩) (some ⟨w1.heap.size, 0, none⟩) 32 32 n n K0 (K0.take 16) zz (MN w1.drew) KL.out (PK.out.later hb2 hb2.size) (by rw [List.length_take, KL.out]; rfl) (Own.take_part (PK.out.later hb2 hb2.size) KL.out (by omega)) ZL.out (HMN.out w1.drew).2.1.part h1 (HT1.out.below hb2 HT1.out.lt)).mono fun e w'' hh => ?_
      obtain ⟨⟨v, e1, h4⟩, h5⟩ := hh
      obtain ⟨A, c, rfl, -⟩ := h4.shape
      have hl : (sealL K0 (K0.take 16) zz).length = n + 32 := by rw [sealL_len, List.length_take, KL.out, ZL.out]; omega
      rw [hl] at e1
      exact ⟨⟨A, c, e1⟩, hb2.trans (h5.mono hb2.size)⟩
    · subst h2 h3
      refine (Seal_no (some ⟨gk, 0, none⟩) (some ⟨gk, 0, none⟩) (some ⟨w1.heap.size, 0, none⟩) 32 32 16 32 n n (MN w1.drew) (by omega)).mono fun e w'' hh => ?_
      obtain ⟨e1, h4⟩ := hh
      subst h4
      exact ⟨⟨none, 0, e1⟩, hb2⟩)
  clear hb2
  go_wp2_with (fail)
  go_region_with (first | (go_at_call 29; refine HSEAL.out.mono ?_; rintro e w3 ⟨⟨As, cs, rfl⟩, b3⟩))
  have B3 := Lib.hid b3
  clear b3 hmk HSEAL
  go_upto_region 5 with (fail)
  have HMK3 : Hid (Own (MN w3) w3.heap.size (.slice (some ⟨w3.heap.size, 0, none⟩) n n) zz ∧ Below w3.heap.size w3 (MN w3)) := Lib.hid (HMN.out w3).2
  have hmk3 : (Instr.makeSlice 22 (.int .i64 (n : Int)) (.int .i64 (n : Int))).run Tryd.prog w3 = .ok (.slice (some ⟨w3.heap.size, 0, none⟩) n n) (MN w3) := (HMN.out w3).1
  have B4 : Hid (Below w1.heap.size w1 (MN w3)) := Lib.hid (B3.out.trans (HMK3.out.2.mono B3.out.size))
  have HOPEN := Lib.hid (Open_any (some ⟨gk, 0, none⟩) (some ⟨w3.heap.size, 0, none⟩) 32 n n K0 zz (MN w3) KL.out (PK.out.later B4.out B4.out.size) ZL.out HMK3.out.1.part ZB.out (HT1.out.below B4.out HT1.out.lt))
  obtain ⟨q, hq⟩ : ∃ q, n - 16 = q := ⟨_, rfl⟩
  have HQ := Lib.hid hq
  obtain ⟨ff, hff⟩ : ∃ ff, openE K0 zz = ff := ⟨_, rfl⟩
  have HFF : Hid ((65536 < n ∧ ff = 5) ∨ (n ≤ 65536 ∧ (ff = 10 ∨ (ff = 0 ∧ List.replicate 16 0 = tagL K0 (List.replicate q 0))))) := Lib.hid (by
    rw [← hff]
    unfold openE
    have hz := HN.out
    rw [ZL.out, if_neg (by omega), hq]
    by_cases h : 65536 < n
    · exact .inl ⟨h, by rw [if_pos h]⟩
    · refine .inr ⟨by omega, ?_⟩
      rw [if_neg h, ← HZZ.out, List.drop_replicate, List.take_replicate, Nat.min_eq_left (by omega : q ≤ n), show n - q = 16 by omega]
      by_cases h2 : List.replicate 16 (0 : Int) = tagL K0 (List.replicate q 0)
      · exact .inr ⟨by rw [if_pos h2], h2⟩
      · exact .inl (by rw [if_neg h2]))
  rw [hff] at HOPEN
  clear hff hq
  go_wp2_with (fail)
  refine HOPEN.out.mono ?_
  rintro e w5 ⟨⟨vp, rfl, -⟩, b5⟩
  have B5 := Lib.hid (B4.out.trans (b5.mono B4.out.size))
  have BW := Lib.hid (B1.out.trans (B5.out.mono B1.out.size))
  clear b5 HOPEN hmk3 HMK3 B3 B4
  -- what follows region 6
  have REST : Hid (∀ w', Below w5.heap.size w5 w' → Calls Tryd.prog 23 #[] w' fun e w'' => e = .returned (.bool true) ∧ Below w.heap.size w w'') := Lib.hid fun w' h => HKN.out w' (BW.out.trans (h.mono BW.out.size))
  go_upto_region 6 with (fail)
  go_cut [56] from 32 to 55 (fun v wx => v = .bool false ∧ Hid (Below w5.heap.size w5 wx))
  case first =>
    rcases HFF.out with ⟨h1, h2⟩ | ⟨h1, h2 | ⟨h2, h3⟩⟩
    · subst h2
      have gI : (65536 : Int) < n := by omega
      have gJ : ¬ (n : Int) ≤ 65536 := by omega
      go_quiet (fail)
      go_wp2_with (fail)
      go_meet
      exact ⟨rfl, Lib.hid (below_drewN (Below.refl _ _) _)⟩
    · subst h2
      have gI : ¬ (65536 : Int) < n := by omega
      have gJ : (n : Int) ≤ 65536 := by omega
      go_quiet (fail)
      go_wp2_with (fail)
      go_meet
      exact ⟨rfl, Lib.hid (below_drewN (Below.refl _ _) _)⟩
    · subst h2
      have gI : ¬ (65536 : Int) < n := by omega
      have gJ : (n : Int) ≤ 65536 := by omega
      have hqn : (n : Int) - 16 = (q : Int) := by have := HQ.out; have := HN.out; omega
      have hw : IntKind.i64.wrap ((n : Int) - 16) = (q : Int) := by rw [hqn, IntKind.wrap_i64]; have := HQ.out; have := HN.out; omega
      obtain ⟨MQ, hMQ⟩ := mk_ex q (by have := HQ.out; have := HN.out; omega)
      obtain ⟨MS, hMS⟩ := mk_ex 16 (by omega)
      obtain ⟨st, hst⟩ : ∃ z, strOfNums (List.replicate 16 (0 : Int)) = z := ⟨_, rfl⟩
      have hst2 : strOfNums (tagL K0 (List.replicate q 0)) = st := by rw [← h3]; exact hst
      have HST := Lib.hid hst
      have HST2 := Lib.hid hst2
      have HMQ := Lib.hid hMQ
      have HMS := Lib.hid hMS
      clear hst hst2 hMQ hMS h3 h1
      have r1 : ∀ v : World, (Instr.makeSlice 22 (.int .i64 (q : Int)) (.int .i64 (q : Int))).run Tryd.prog v = .ok (.slice (some ⟨v.heap.size, 0, none⟩) q q) (MQ v) := fun v => (HMQ.out v).1
      have r2 : ∀ v : World, (Instr.makeSlice 22 (.int .i64 16) (.int .i64 16)).run Tryd.prog v = .ok (.slice (some ⟨v.heap.size, 0, none⟩) 16 16) (MS v) := fun v => (HMS.out v).1
      have D0 : Below w5.heap.size w5 w5.drew := (Below.refl _ _).drew
      have DQ : Below w5.heap.size w5 (MQ w5.drew) := D0.trans (HMQ.out w5.drew).2.2
      have DS : Below w5.heap.size w5 (MS w5.drew) := D0.trans (HMS.out w5.drew).2.2
      have DQS : Below w5.heap.size w5 (MS (MQ w5.drew)) := DQ.trans ((HMS.out (MQ w5.drew)).2.2.mono DQ.size)
      have DSQ : Below w5.heap.size w5 (MQ (MS w5.drew)) := DS.trans ((HMQ.out (MS w5.drew)).2.2.mono DS.size)
      have c1 : ∀ v : World, (convert 22 9 (.slice (some ⟨v.heap.size, 0, none⟩) 16 16)).run Tryd.prog (MS v) = .ok (.string st) (MS v) := fun v => by rw [← HST.out]; exact conv_part (HMS.out v).2.1.part
      have c2 : (convert 22 9 (.slice (some ⟨w5.heap.size, 0, none⟩) 16 16)).run Tryd.prog (MS w5.drew) = .ok (.string st) (MS w5.drew) := c1 w5.drew
      have c3 : (convert 22 9 (.slice (some ⟨w5.heap.size, 0, none⟩) 16 16)).run Tryd.prog (MQ (MS w5.drew)) = .ok (.string st) (MQ (MS w5.drew)) := by rw [← HST.out]; exact conv_part ((HMS.out w5.drew).2.1.below (HMQ.out (MS w5.drew)).2.2).part
      have TG : Hid (∀ (w' : World) (g : Nat), Below w5.heap.size w5 w' → PartAt w' w'.heap.size (.slice (some ⟨g, 0, none⟩) q q) (List.replicate q 0) → Calls Tryd.prog 35 #[.slice (some ⟨gk, 0, none⟩) 32 32, .slice (some ⟨g, 0, none⟩) q q] w' fun e w'' => ∃ v', e = .returned v' ∧ (convert 22 9 v').run Tryd.prog w'' = .ok (.string st) w'' ∧ (convert 22 9 v').run Tryd.prog (MS w'') = .ok (.string st) (MS w'') ∧ Below w'.heap.size w' w'') := Lib.hid fun w' g hb hp => (rtag_any (some ⟨gk, 0, none⟩) (some ⟨g, 0, none⟩) 32 32 q q K0 (List.replicate q 0) w' KL.out (by omega) (fun e => by cases e) (PK.out.later (B5.out.trans (hb.mono B5.out.size)) (Nat.le_trans B5.out.size hb.size)) (fun e => by cases e) hp List.length_replicate (by have := HQ.out; have := HN.out; omega)).mono fun e w'' hh => by
        obtain ⟨⟨g', c', e1, h1⟩, h2⟩ := hh
        exact ⟨_, e1, by rw [← HST2.out]; exact conv_part h1.part, by rw [← HST2.out]; exact conv_part (h1.below (HMS.out w'').2.2).part, h2⟩
      have T1 : Hid (Calls Tryd.prog 35 #[.slice (some ⟨gk, 0, none⟩) 32 32, .slice (some ⟨w5.heap.size, 0, none⟩) q q] (MQ w5.drew) fun e w'' => ∃ v', e = .returned v' ∧ (convert 22 9 v').run Tryd.prog w'' = .ok (.string st) w'' ∧ (convert 22 9 v').run Tryd.prog (MS w'') = .ok (.string st) (MS w'') ∧ Below w5.heap.size w5 (MS w'')) := Lib.hid ((TG.out (MQ w5.drew) w5.heap.size DQ (HMQ.out w5.drew).2.1.part).mono fun e w'' hh => by
        obtain ⟨v', e1, h1, h2, h3⟩ := hh
        exact ⟨v', e1, h1, h2, (DQ.trans (h3.mono DQ.size)).trans ((HMS.out w'').2.2.mono (Nat.le_trans DQ.size h3.size))⟩)
      have T2 : Hid (Calls Tryd.prog 35 #[.slice (some ⟨gk, 0, none⟩) 32 32, .slice (some ⟨w5.heap.size, 0, none⟩) q q] (MS (MQ w5.drew)) fun e w'' => ∃ v', e = .returned v' ∧ (convert 22 9 v').run Tryd.prog w'' = .ok (.string st) w'' ∧ (convert 22 9 (.slice (some ⟨(MQ w5.drew).heap.size, 0, none⟩) 16 16)).run Tryd.prog w'' = .ok (.string st) w'' ∧ Below w5.heap.size w5 w'') := Lib.hid ((TG.out (MS (MQ w5.drew)) w5.heap.size DQS ((HMQ.out w5.drew).2.1.below (HMS.out (MQ w5.drew)).2.2).part).mono fun e w'' hh => by
        obtain ⟨v', e1, h1, -, h3⟩ := hh
        exact ⟨v', e1, h1, by rw [← HST.out]; exact conv_part ((HMS.out (MQ w5.drew)).2.1.below h3).part, DQS.trans (h3.mono DQS.size)⟩)
      have T3 : Hid (Calls Tryd.prog 35 #[.slice (some ⟨gk, 0, none⟩) 32 32, .slice (some ⟨(MS w5.drew).heap.size, 0, none⟩) q q] (MQ (MS w5.drew)) fun e w'' => ∃ v', e = .returned v' ∧ (convert 22 9 v').run Tryd.prog w'' = .ok (.string st) w'' ∧ (convert 22 9 (.slice (some ⟨w5.heap.size, 0, none⟩) 16 16)).run Tryd.prog w'' = .ok (.string st) w'' ∧ Below w5.heap.size w5 w'') := Lib.hid ((TG.out (MQ (MS w5.drew)) (MS w5.drew).heap.size DSQ (HMQ.out (MS w5.drew)).2.1.part).mono fun e w'' hh => by
        obtain ⟨v', e1, h1, -, h3⟩ := hh
        exact ⟨v', e1, h1, by rw [← HST.out]; exact conv_part (((HMS.out w5.drew).2.1.below (HMQ.out (MS w5.drew)).2.2).below h3).part, DSQ.trans (h3.mono DSQ.size)⟩)
      clear D0 DQ DS DQS DSQ hqn
      refine wp_region_any (by kernel_rfl) ?_
      refine wpAny_take (i := 0) (v := .int .i64 n) rfl (by kernel_rfl) (by kernel_rfl) (by kernel_rfl) (fun _ _ _ h => h) (Or.inl ⟨by rfl, ?_⟩) ?_
      · intro w; go_simp
      try simp only [List.getElem_toArray, List.getElem_cons_zero, List.getElem_cons_succ, Act.put, List.setIfInBounds_toArray, List.set_cons_zero, List.set_cons_succ]
      refine wpAny_take (i := 1) (v := .bool false) rfl (by kernel_rfl) (by kernel_rfl) (by kernel_rfl) (fun _ _ _ h => h) (Or.inl ⟨by rfl, ?_⟩) ?_
      · intro w; go_simp
      try simp only [List.getElem_toArray, List.getElem_cons_zero, List.getElem_cons_succ, Act.put, List.setIfInBounds_toArray, List.set_cons_zero, List.set_cons_succ]
      refine wpAny_take (i := 2) (v := .bool false) rfl (by kernel_rfl) (by kernel_rfl) (by kernel_rfl) (fun _ _ _ h => h) (Or.inl ⟨by rfl, ?_⟩) ?_
      · intro w; go_simp
      try simp only [List.getElem_toArray, List.getElem_cons_zero, List.getElem_cons_succ, Act.put, List.setIfInBounds_toArray, List.set_cons_zero, List.set_cons_succ]
      refine wpAny_take (i := 3) (v := undef) rfl (by kernel_rfl) (by kernel_rfl) (by kernel_rfl) (fun _ _ _ h => h) (Or.inr ⟨by rfl, by rfl⟩) ?_
      try simp only [List.getElem_toArray, List.getElem_cons_zero, List.getElem_cons_succ, Act.put, List.setIfInBounds_toArray, List.set_cons_zero, List.set_cons_succ]
      refine wpAny_take (i := 4) (v := undef) rfl (by kernel_rfl) (by kernel_rfl) (by kernel_rfl) (fun _ _ _ h => h) (Or.inr ⟨by rfl, by rfl⟩) ?_
      try simp only [List.getElem_toArray, List.getElem_cons_zero, List.getElem_cons_succ, Act.put, List.setIfInBounds_toArray, List.set_cons_zero, List.set_cons_succ]
      refine wpAny_take (i := 5) (v := .bool false) rfl (by kernel_rfl) (by kernel_rfl) (by kernel_rfl) (fun _ _ _ h => h) (Or.inl ⟨by rfl, ?_⟩) ?_
      · intro w; go_simp
      try simp only [List.getElem_toArray, List.getElem_cons_zero, List.getElem_cons_succ, Act.put, List.setIfInBounds_toArray, List.set_cons_zero, List.set_cons_succ]
      refine wpAny_take (i := 6) (v := .bool false) rfl (by kernel_rfl) (by kernel_rfl) (by kernel_rfl) (fun _ _ _ h => h) (Or.inl ⟨by rfl, ?_⟩) ?_
      · intro w; go_simp
      try simp only [List.getElem_toArray, List.getElem_cons_zero, List.getElem_cons_succ, Act.put, List.setIfInBounds_toArray, List.set_cons_zero, List.set_cons_succ]
      refine wpAny_take (i := 7) (v := .int .i64 n) rfl (by kernel_rfl) (by kernel_rfl) (by kernel_rfl) (fun _ _ _ h => h) (Or.inl ⟨by rfl, ?_⟩) ?_
      · intro w; go_simp
      try simp only [List.getElem_toArray, List.getElem_cons_zero, List.getElem_cons_succ, Act.put, List.setIfInBounds_toArray, List.set_cons_zero, List.set_cons_succ]
      refine wpAny_take (i := 8) (v := .bool true) rfl (by kernel_rfl) (by kernel_rfl) (by kernel_rfl) (fun _ _ _ h => h) (Or.inl ⟨by rfl, ?_⟩) ?_
      · intro w; go_simp
      try simp only [List.getElem_toArray, List.getElem_cons_zero, List.getElem_cons_succ, Act.put, List.setIfInBounds_toArray, List.set_cons_zero, List.set_cons_succ]
      refine wpAny_take (i := 9) (v := .bool true) rfl (by kernel_rfl) (by kernel_rfl) (by kernel_rfl) (fun _ _ _ h => h) (Or.inl ⟨by rfl, ?_⟩) ?_
      · intro w; go_simp
      try simp only [List.getElem_toArray, List.getElem_cons_zero, List.getElem_cons_succ, Act.put, List.setIfInBounds_toArray, List.set_cons_zero, List.set_cons_succ]
      refine wpAny_take (i := 10) (v := .int .i64 0) rfl (by kernel_rfl) (by kernel_rfl) (by kernel_rfl) (fun _ _ _ h => h) (Or.inl ⟨by rfl, ?_⟩) ?_
      · intro w; go_simp
      try simp only [List.getElem_toArray, List.getElem_cons_zero, List.getElem_cons_succ, Act.put, List.setIfInBounds_toArray, List.set_cons_zero, List.set_cons_succ]
      refine wpAny_take (i := 11) (v := .bool true) rfl (by kernel_rfl) (by kernel_rfl) (by kernel_rfl) (fun _ _ _ h => h) (Or.inl ⟨by rfl, ?_⟩) ?_
      · intro w; go_simp
      try simp only [List.getElem_toArray, List.getElem_cons_zero, List.getElem_cons_succ, Act.put, List.setIfInBounds_toArray, List.set_cons_zero, List.set_cons_succ]
      refine wpAny_take (i := 12) (v := .bool true) rfl (by kernel_rfl) (by kernel_rfl) (by kernel_rfl) (fun _ _ _ h => h) (Or.inl ⟨by rfl, ?_⟩) ?_
      · intro w; go_simp
      try simp only [List.getElem_toArray, List.getElem_cons_zero, List.getElem_cons_succ, Act.put, List.setIfInBounds_toArray, List.set_cons_zero, List.set_cons_succ]
      refine wpAny_take (i := 13) (v := .bool true) rfl (by kernel_rfl) (by kernel_rfl) (by kernel_rfl) (fun _ _ _ h => h) (Or.inl ⟨by rfl, ?_⟩) ?_
      · intro w; go_simp
      try simp only [List.getElem_toArray, List.getElem_cons_zero, List.getElem_cons_succ, Act.put, List.setIfInBounds_toArray, List.set_cons_zero, List.set_cons_succ]
      refine wpAny_take (i := 14) (v := .slice (some ⟨gk, 0, none⟩) 32 32) rfl (by kernel_rfl) (by kernel_rfl) (by kernel_rfl) (fun _ _ _ h => h) (Or.inl ⟨by rfl, ?_⟩) ?_
      · intro w; go_simp
      try simp only [List.getElem_toArray, List.getElem_cons_zero, List.getElem_cons_succ, Act.put, List.setIfInBounds_toArray, List.set_cons_zero, List.set_cons_succ]
      refine wpAny_take (i := 15) (v := .int .i64 n) rfl (by kernel_rfl) (by kernel_rfl) (by kernel_rfl) (fun _ _ _ h => h) (Or.inl ⟨by rfl, ?_⟩) ?_
      · intro w; go_simp
      try simp only [List.getElem_toArray, List.getElem_cons_zero, List.getElem_cons_succ, Act.put, List.setIfInBounds_toArray, List.set_cons_zero, List.set_cons_succ]
      refine wpAny_take (i := 16) (v := .int .i64 q) rfl (by kernel_rfl) (by kernel_rfl) (by kernel_rfl) (fun _ _ _ h => h) (Or.inl ⟨by rfl, ?_⟩) ?_
      · intro w; go_simp
      try simp only [List.getElem_toArray, List.getElem_cons_zero, List.getElem_cons_succ, Act.put, List.setIfInBounds_toArray, List.set_cons_zero, List.set_cons_succ]
      refine wpAny_ready (rs := [17, 20]) (by kernel_rfl) (by simp) ?_
      refine AllReady.cons rfl (fun K hK => ?_) (AllReady.cons rfl (fun K hK => ?_) AllReady.nil)
      · go_simp
        refine hK _ _ ?_; clear hK K
        try simp only [List.getElem_toArray, List.getElem_cons_zero, List.getElem_cons_succ, Act.put, List.setIfInBounds_toArray, List.set_cons_zero, List.set_cons_succ]
        refine wpAny_ready (rs := [18, 20]) (by kernel_rfl) (by simp) ?_
        refine AllReady.cons rfl (fun K hK => ?_) (AllReady.cons rfl (fun K hK => ?_) AllReady.nil)
        · go_simp; go_at_call 35; refine T1.out.mono ?_; rintro e w6 ⟨v6, rfl, hc6, hd6, h6⟩
          refine hK _ _ ?_; clear hK K
          try simp only [List.getElem_toArray, List.getElem_cons_zero, List.getElem_cons_succ, Act.put, List.setIfInBounds_toArray, List.set_cons_zero, List.set_cons_succ]
          refine wpAny_ready (rs := [19, 20]) (by kernel_rfl) (by simp) ?_
          refine AllReady.cons rfl (fun K hK => ?_) (AllReady.cons rfl (fun K hK => ?_) AllReady.nil)
          · go_simp
            refine hK _ _ ?_; clear hK K
            try simp only [List.getElem_toArray, List.getElem_cons_zero, List.getElem_cons_succ, Act.put, List.setIfInBounds_toArray, List.set_cons_zero, List.set_cons_succ]
            refine wpAny_ready (rs := [20]) (by kernel_rfl) (by simp) ?_
            refine AllReady.cons rfl (fun K hK => ?_) AllReady.nil
            go_simp
            refine hK _ _ ?_; clear hK K
            try simp only [List.getElem_toArray, List.getElem_cons_zero, List.getElem_cons_succ, Act.put, List.setIfInBounds_toArray, List.set_cons_zero, List.set_cons_succ]
            refine wpAny_ready (rs := [21]) (by kernel_rfl) (by simp) ?_
            refine AllReady.cons rfl (fun K hK => ?_) AllReady.nil
            go_simp
            refine hK _ _ ?_; clear hK K
            try simp only [List.getElem_toArray, List.getElem_cons_zero, List.getElem_cons_succ, Act.put, List.setIfInBounds_toArray, List.set_cons_zero, List.set_cons_succ]
            refine wpAny_take (i := 22) (v := .bool false) rfl (by kernel_rfl) (by kernel_rfl) (by kernel_rfl) (fun _ _ _ h => h) (Or.inl ⟨by rfl, ?_⟩) ?_
            · intro w; go_simp
            try simp only [List.getElem_toArray, List.getElem_cons_zero, List.getElem_cons_succ, Act.put, List.setIfInBounds_toArray, List.set_cons_zero, List.set_cons_succ]
            refine wpAny_take (i := 23) (v := .bool false) rfl (by kernel_rfl) (by kernel_rfl) (by kernel_rfl) (fun _ _ _ h => h) (Or.inl ⟨by rfl, ?_⟩) ?_
            · intro w; go_simp
            try simp only [List.getElem_toArray, List.getElem_cons_zero, List.getElem_cons_succ, Act.put, List.setIfInBounds_toArray, List.set_cons_zero, List.set_cons_succ]
            refine wpAny_take (i := 24) (v := .bool false) rfl (by kernel_rfl) (by kernel_rfl) (by kernel_rfl) (fun _ _ _ h => h) (Or.inl ⟨by rfl, ?_⟩) ?_
            · intro w; go_simp
            try simp only [List.getElem_toArray, List.getElem_cons_zero, List.getElem_cons_succ, Act.put, List.setIfInBounds_toArray, List.set_cons_zero, List.set_cons_succ]
            refine wpAny_done (by kernel_rfl) ?_ _
            go_wp2_with (fail)
            go_meet
            exact ⟨rfl, Lib.hid h6⟩
          · go_simp
            refine hK _ _ ?_; clear hK K
            try simp only [List.getElem_toArray, List.getElem_cons_zero, List.getElem_cons_succ, Act.put, List.setIfInBounds_toArray, List.set_cons_zero, List.set_cons_succ]
            refine wpAny_ready (rs := [19, 21]) (by kernel_rfl) (by simp) ?_
            refine AllReady.cons rfl (fun K hK => ?_) (AllReady.cons rfl (fun K hK => ?_) AllReady.nil)
            · go_simp
              refine hK _ _ ?_; clear hK K
              try simp only [List.getElem_toArray, List.getElem_cons_zero, List.getElem_cons_succ, Act.put, List.setIfInBounds_toArray, List.set_cons_zero, List.set_cons_succ]
              refine wpAny_ready (rs := [21]) (by kernel_rfl) (by simp) ?_
              refine AllReady.cons rfl (fun K hK => ?_) AllReady.nil
              go_simp
              refine hK _ _ ?_; clear hK K
              try simp only [List.getElem_toArray, List.getElem_cons_zero, List.getElem_cons_succ, Act.put, List.setIfInBounds_toArray, List.set_cons_zero, List.set_cons_succ]
              refine wpAny_take (i := 22) (v := .bool false) rfl (by kernel_rfl) (by kernel_rfl) (by kernel_rfl) (fun _ _ _ h => h) (Or.inl ⟨by rfl, ?_⟩) ?_
              · intro w; go_simp
              try simp only [List.getElem_toArray, List.getElem_cons_zero, List.getElem_cons_succ, Act.put, List.setIfInBounds_toArray, List.set_cons_zero, List.set_cons_succ]
              refine wpAny_take (i := 23) (v := .bool false) rfl (by kernel_rfl) (by kernel_rfl) (by kernel_rfl) (fun _ _ _ h => h) (Or.inl ⟨by rfl, ?_⟩) ?_
              · intro w; go_simp
              try simp only [List.getElem_toArray, List.getElem_cons_zero, List.getElem_cons_succ, Act.put, List.setIfInBounds_toArray, List.set_cons_zero, List.set_cons_succ]
              refine wpAny_take (i := 24) (v := .bool false) rfl (by kernel_rfl) (by kernel_rfl) (by kernel_rfl) (fun _ _ _ h => h) (Or.inl ⟨by rfl, ?_⟩) ?_
              · intro w; go_simp
              try simp only [List.getElem_toArray, List.getElem_cons_zero, List.getElem_cons_succ, Act.put, List.setIfInBounds_toArray, List.set_cons_zero, List.set_cons_succ]
              refine wpAny_done (by kernel_rfl) ?_ _
              go_wp2_with (fail)
              go_meet
              exact ⟨rfl, Lib.hid h6⟩
            · go_simp
              refine hK _ _ ?_; clear hK K
              try simp only [List.getElem_toArray, List.getElem_cons_zero, List.getElem_cons_succ, Act.put, List.setIfInBounds_toArray, List.set_cons_zero, List.set_cons_succ]
              refine wpAny_ready (rs := [19]) (by kernel_rfl) (by simp) ?_
              refine AllReady.cons rfl (fun K hK => ?_) AllReady.nil
              go_simp
              refine hK _ _ ?_; clear hK K
              try simp only [List.getElem_toArray, List.getElem_cons_zero, List.getElem_cons_succ, Act.put, List.setIfInBounds_toArray, List.set_cons_zero, List.set_cons_succ]
              refine wpAny_take (i := 22) (v := .bool false) rfl (by kernel_rfl) (by kernel_rfl) (by kernel_rfl) (fun _ _ _ h => h) (Or.inl ⟨by rfl, ?_⟩) ?_
              · intro w; go_simp
              try simp only [List.getElem_toArray, List.getElem_cons_zero, List.getElem_cons_succ, Act.put, List.setIfInBounds_toArray, List.set_cons_zero, List.set_cons_succ]
              refine wpAny_take (i := 23) (v := .bool false) rfl (by kernel_rfl) (by kernel_rfl) (by kernel_rfl) (fun _ _ _ h => h) (Or.inl ⟨by rfl, ?_⟩) ?_
              · intro w; go_simp
              try simp only [List.getElem_toArray, List.getElem_cons_zero, List.getElem_cons_succ, Act.put, List.setIfInBounds_toArray, List.set_cons_zero, List.set_cons_succ]
              refine wpAny_take (i := 24) (v := .bool false) rfl (by kernel_rfl) (by kernel_rfl) (by kernel_rfl) (fun _ _ _ h => h) (Or.inl ⟨by rfl, ?_⟩) ?_
              · intro w; go_simp
              try simp only [List.getElem_toArray, List.getElem_cons_zero, List.getElem_cons_succ, Act.put, List.setIfInBounds_toArray, List.set_cons_zero, List.set_cons_succ]
              refine wpAny_done (by kernel_rfl) ?_ _
              go_wp2_with (fail)
              go_meet
              exact ⟨rfl, Lib.hid h6⟩
        · go_simp
          refine hK _ _ ?_; clear hK K
          try simp only [List.getElem_toArray, List.getElem_cons_zero, List.getElem_cons_succ, Act.put, List.setIfInBounds_toArray, List.set_cons_zero, List.set_cons_succ]
          refine wpAny_ready (rs := [18, 21]) (by kernel_rfl) (by simp) ?_
          refine AllReady.cons rfl (fun K hK => ?_) (AllReady.cons rfl (fun K hK => ?_) AllReady.nil)
          · go_simp; go_at_call 35; refine T2.out.mono ?_; rintro e w6 ⟨v6, rfl, hc6, hd6, h6⟩
            refine hK _ _ ?_; clear hK K
            try simp only [List.getElem_toArray, List.getElem_cons_zero, List.getElem_cons_succ, Act.put, List.setIfInBounds_toArray, List.set_cons_zero, List.set_cons_succ]
            refine wpAny_ready (rs := [19, 21]) (by kernel_rfl) (by simp) ?_
            refine AllReady.cons rfl (fun K hK => ?_) (AllReady.cons rfl (fun K hK => ?_) AllReady.nil)
            · go_simp
              refine hK _ _ ?_; clear hK K
              try simp only [List.getElem_toArray, List.getElem_cons_zero, List.getElem_cons_succ, Act.put, List.setIfInBounds_toArray, List.set_cons_zero, List.set_cons_succ]
              refine wpAny_ready (rs := [21]) (by kernel_rfl) (by simp) ?_
              refine AllReady.cons rfl (fun K hK => ?_) AllReady.nil
              go_simp
              refine hK _ _ ?_; clear hK K
              try simp only [List.getElem_toArray, List.getElem_cons_zero, List.getElem_cons_succ, Act.put, List.setIfInBounds_toArray, List.set_cons_zero, List.set_cons_succ]
              refine wpAny_take (i := 22) (v := .bool false) rfl (by kernel_rfl) (by kernel_rfl) (by kernel_rfl) (fun _ _ _ h => h) (Or.inl ⟨by rfl, ?_⟩) ?_
              · intro w; go_simp
              try simp only [List.getElem_toArray, List.getElem_cons_zero, List.getElem_cons_succ, Act.put, List.setIfInBounds_toArray, List.set_cons_zero, List.set_cons_succ]
              refine wpAny_take (i := 23) (v := .bool false) rfl (by kernel_rfl) (by kernel_rfl) (by kernel_rfl) (fun _ _ _ h => h) (Or.inl ⟨by rfl, ?_⟩) ?_
              · intro w; go_simp
              try simp only [List.getElem_toArray, List.getElem_cons_zero, List.getElem_cons_succ, Act.put, List.setIfInBounds_toArray, List.set_cons_zero, List.set_cons_succ]
              refine wpAny_take (i := 24) (v := .bool false) rfl (by kernel_rfl) (by kernel_rfl) (by kernel_rfl) (fun _ _ _ h => h) (Or.inl ⟨by rfl, ?_⟩) ?_
              · intro w; go_simp
              try simp only [List.getElem_toArray, List.getElem_cons_zero, List.getElem_cons_succ, Act.put, List.setIfInBounds_toArray, List.set_cons_zero, List.set_cons_succ]
              refine wpAny_done (by kernel_rfl) ?_ _
              go_wp2_with (fail)
              go_meet
              exact ⟨rfl, Lib.hid h6⟩
            · go_simp
              refine hK _ _ ?_; clear hK K
              try simp only [List.getElem_toArray, List.getElem_cons_zero, List.getElem_cons_succ, Act.put, List.setIfInBounds_toArray, List.set_cons_zero, List.set_cons_succ]
              refine wpAny_ready (rs := [19]) (by kernel_rfl) (by simp) ?_
              refine AllReady.cons rfl (fun K hK => ?_) AllReady.nil
              go_simp
              refine hK _ _ ?_; clear hK K
              try simp only [List.getElem_toArray, List.getElem_cons_zero, List.getElem_cons_succ, Act.put, List.setIfInBounds_toArray, List.set_cons_zero, List.set_cons_succ]
              refine wpAny_take (i := 22) (v := .bool false) rfl (by kernel_rfl) (by kernel_rfl) (by kernel_rfl) (fun _ _ _ h => h) (Or.inl ⟨by rfl, ?_⟩) ?_
              · intro w; go_simp
              try simp only [List.getElem_toArray, List.getElem_cons_zero, List.getElem_cons_succ, Act.put, List.setIfInBounds_toArray, List.set_cons_zero, List.set_cons_succ]
              refine wpAny_take (i := 23) (v := .bool false) rfl (by kernel_rfl) (by kernel_rfl) (by kernel_rfl) (fun _ _ _ h => h) (Or.inl ⟨by rfl, ?_⟩) ?_
              · intro w; go_simp
              try simp only [List.getElem_toArray, List.getElem_cons_zero, List.getElem_cons_succ, Act.put, List.setIfInBounds_toArray, List.set_cons_zero, List.set_cons_succ]
              refine wpAny_take (i := 24) (v := .bool false) rfl (by kernel_rfl) (by kernel_rfl) (by kernel_rfl) (fun _ _ _ h => h) (Or.inl ⟨by rfl, ?_⟩) ?_
              · intro w; go_simp
              try simp only [List.getElem_toArray, List.getElem_cons_zero, List.getElem_cons_succ, Act.put, List.setIfInBounds_toArray, List.set_cons_zero, List.set_cons_succ]
              refine wpAny_done (by kernel_rfl) ?_ _
              go_wp2_with (fail)
              go_meet
              exact ⟨rfl, Lib.hid h6⟩
          · go_simp
            refine hK _ _ ?_; clear hK K
            try simp only [List.getElem_toArray, List.getElem_cons_zero, List.getElem_cons_succ, Act.put, List.setIfInBounds_toArray, List.set_cons_zero, List.set_cons_succ]
            refine wpAny_ready (rs := [18]) (by kernel_rfl) (by simp) ?_
            refine AllReady.cons rfl (fun K hK => ?_) AllReady.nil
            go_simp; go_at_call 35; refine T2.out.mono ?_; rintro e w6 ⟨v6, rfl, hc6, hd6, h6⟩
            refine hK _ _ ?_; clear hK K
            try simp only [List.getElem_toArray, List.getElem_cons_zero, List.getElem_cons_succ, Act.put, List.setIfInBounds_toArray, List.set_cons_zero, List.set_cons_succ]
            refine wpAny_ready (rs := [19]) (by kernel_rfl) (by simp) ?_
            refine AllReady.cons rfl (fun K hK => ?_) AllReady.nil
            go_simp
            refine hK _ _ ?_; clear hK K
            try simp only [List.getElem_toArray, List.getElem_cons_zero, List.getElem_cons_succ, Act.put, List.setIfInBounds_toArray, List.set_cons_zero, List.set_cons_succ]
            refine wpAny_take (i := 22) (v := .bool false) rfl (by kernel_rfl) (by kernel_rfl) (by kernel_rfl) (fun _ _ _ h => h) (Or.inl ⟨by rfl, ?_⟩) ?_
            · intro w; go_simp
            try simp only [List.getElem_toArray, List.getElem_cons_zero, List.getElem_cons_succ, Act.put, List.setIfInBounds_toArray, List.set_cons_zero, List.set_cons_succ]
            refine wpAny_take (i := 23) (v := .bool false) rfl (by kernel_rfl) (by kernel_rfl) (by kernel_rfl) (fun _ _ _ h => h) (Or.inl ⟨by rfl, ?_⟩) ?_
            · intro w; go_simp
            try simp only [List.getElem_toArray, List.getElem_cons_zero, List.getElem_cons_succ, Act.put, List.setIfInBounds_toArray, List.set_cons_zero, List.set_cons_succ]
            refine wpAny_take (i := 24) (v := .bool false) rfl (by kernel_rfl) (by kernel_rfl) (by kernel_rfl) (fun _ _ _ h => h) (Or.inl ⟨by rfl, ?_⟩) ?_
            · intro w; go_simp
            try simp only [List.getElem_toArray, List.getElem_cons_zero, List.getElem_cons_succ, Act.put, List.setIfInBounds_toArray, List.set_cons_zero, List.set_cons_succ]
            refine wpAny_done (by kernel_rfl) ?_ _
            go_wp2_with (fail)
            go_meet
            exact ⟨rfl, Lib.hid h6⟩
      · go_simp
        refine hK _ _ ?_; clear hK K
        try simp only [List.getElem_toArray, List.getElem_cons_zero, List.getElem_cons_succ, Act.put, List.setIfInBounds_toArray, List.set_cons_zero, List.set_cons_succ]
        refine wpAny_ready (rs := [17, 21]) (by kernel_rfl) (by simp) ?_
        refine AllReady.cons rfl (fun K hK => ?_) (AllReady.cons rfl (fun K hK => ?_) AllReady.nil)
        · go_simp
          refine hK _ _ ?_; clear hK K
          try simp only [List.getElem_toArray, List.getElem_cons_zero, List.getElem_cons_succ, Act.put, List.setIfInBounds_toArray, List.set_cons_zero, List.set_cons_succ]
          refine wpAny_ready (rs := [18, 21]) (by kernel_rfl) (by simp) ?_
          refine AllReady.cons rfl (fun K hK => ?_) (AllReady.cons rfl (fun K hK => ?_) AllReady.nil)
          · go_simp; go_at_call 35; refine T3.out.mono ?_; rintro e w6 ⟨v6, rfl, hc6, hd6, h6⟩
            refine hK _ _ ?_; clear hK K
            try simp only [List.getElem_toArray, List.getElem_cons_zero, List.getElem_cons_succ, Act.put, List.setIfInBounds_toArray, List.set_cons_zero, List.set_cons_succ]
            refine wpAny_ready (rs := [19, 21]) (by kernel_rfl) (by simp) ?_
            refine AllReady.cons rfl (fun K hK => ?_) (AllReady.cons rfl (fun K hK => ?_) AllReady.nil)
            · go_simp
              refine hK _ _ ?_; clear hK K
              try simp only [List.getElem_toArray, List.getElem_cons_zero, List.getElem_cons_succ, Act.put, List.setIfInBounds_toArray, List.set_cons_zero, List.set_cons_succ]
              refine wpAny_ready (rs := [21]) (by kernel_rfl) (by simp) ?_
              refine AllReady.cons rfl (fun K hK => ?_) AllReady.nil
              go_simp
              refine hK _ _ ?_; clear hK K
              try simp only [List.getElem_toArray, List.getElem_cons_zero, List.getElem_cons_succ, Act.put, List.setIfInBounds_toArray, List.set_cons_zero, List.set_cons_succ]
              refine wpAny_take (i := 22) (v := .bool false) rfl (by kernel_rfl) (by kernel_rfl) (by kernel_rfl) (fun _ _ _ h => h) (Or.inl ⟨by rfl, ?_⟩) ?_
              · intro w; go_simp
              try simp only [List.getElem_toArray, List.getElem_cons_zero, List.getElem_cons_succ, Act.put, List.setIfInBounds_toArray, List.set_cons_zero, List.set_cons_succ]
              refine wpAny_take (i := 23) (v := .bool false) rfl (by kernel_rfl) (by kernel_rfl) (by kernel_rfl) (fun _ _ _ h => h) (Or.inl ⟨by rfl, ?_⟩) ?_
              · intro w; go_simp
              try simp only [List.getElem_toArray, List.getElem_cons_zero, List.getElem_cons_succ, Act.put, List.setIfInBounds_toArray, List.set_cons_zero, List.set_cons_succ]
              refine wpAny_take (i := 24) (v := .bool false) rfl (by kernel_rfl) (by kernel_rfl) (by kernel_rfl) (fun _ _ _ h => h) (Or.inl ⟨by rfl, ?_⟩) ?_
              · intro w; go_simp
              try simp only [List.getElem_toArray, List.getElem_cons_zero, List.getElem_cons_succ, Act.put, List.setIfInBounds_toArray, List.set_cons_zero, List.set_cons_succ]
              refine wpAny_done (by kernel_rfl) ?_ _
              go_wp2_with (fail)
              go_meet
              exact ⟨rfl, Lib.hid h6⟩
            · go_simp
              refine hK _ _ ?_; clear hK K
              try simp only [List.getElem_toArray, List.getElem_cons_zero, List.getElem_cons_succ, Act.put, List.setIfInBounds_toArray, List.set_cons_zero, List.set_cons_succ]
              refine wpAny_ready (rs := [19]) (by kernel_rfl) (by simp) ?_
              refine AllReady.cons rfl (fun K hK => ?_) AllReady.nil
              go_simp
              refine hK _ _ ?_; clear hK K
              try simp only [List.getElem_toArray, List.getElem_cons_zero, List.getElem_cons_succ, Act.put, List.setIfInBounds_toArray, List.set_cons_zero, List.set_cons_succ]
              refine wpAny_take (i := 22) (v := .bool false) rfl (by kernel_rfl) (by kernel_rfl) (by kernel_rfl) (fun _ _ _ h => h) (Or.inl ⟨by rfl, ?_⟩) ?_
              · intro w; go_simp
              try simp only [List.getElem_toArray, List.getElem_cons_zero, List.getElem_cons_succ, Act.put, List.setIfInBounds_toArray, List.set_cons_zero, List.set_cons_succ]
              refine wpAny_take (i := 23) (v := .bool false) rfl (by kernel_rfl) (by kernel_rfl) (by kernel_rfl) (fun _ _ _ h => h) (Or.inl ⟨by rfl, ?_⟩) ?_
              · intro w; go_simp
              try simp only [List.getElem_toArray, List.getElem_cons_zero, List.getElem_cons_succ, Act.put, List.setIfInBounds_toArray, List.set_cons_zero, List.set_cons_succ]
              refine wpAny_take (i := 24) (v := .bool false) rfl (by kernel_rfl) (by kernel_rfl) (by kernel_rfl) (fun _ _ _ h => h) (Or.inl ⟨by rfl, ?_⟩) ?_
              · intro w; go_simp
              try simp only [List.getElem_toArray, List.getElem_cons_zero, List.getElem_cons_succ, Act.put, List.setIfInBounds_toArray, List.set_cons_zero, List.set_cons_succ]
              refine wpAny_done (by kernel_rfl) ?_ _
              go_wp2_with (fail)
              go_meet
              exact ⟨rfl, Lib.hid h6⟩
          · go_simp
            refine hK _ _ ?_; clear hK K
            try simp only [List.getElem_toArray, List.getElem_cons_zero, List.getElem_cons_succ, Act.put, List.setIfInBounds_toArray, List.set_cons_zero, List.set_cons_succ]
            refine wpAny_ready (rs := [18]) (by kernel_rfl) (by simp) ?_
            refine AllReady.cons rfl (fun K hK => ?_) AllReady.nil
            go_simp; go_at_call 35; refine T3.out.mono ?_; rintro e w6 ⟨v6, rfl, hc6, hd6, h6⟩
            refine hK _ _ ?_; clear hK K
            try simp only [List.getElem_toArray, List.getElem_cons_zero, List.getElem_cons_succ, Act.put, List.setIfInBounds_toArray, List.set_cons_zero, List.set_cons_succ]
            refine wpAny_ready (rs := [19]) (by kernel_rfl) (by simp) ?_
            refine AllReady.cons rfl (fun K hK => ?_) AllReady.nil
            go_simp
            refine hK _ _ ?_; clear hK K
            try simp only [List.getElem_toArray, List.getElem_cons_zero, List.getElem_cons_succ, Act.put, List.setIfInBounds_toArray, List.set_cons_zero, List.set_cons_succ]
            refine wpAny_take (i := 22) (v := .bool false) rfl (by kernel_rfl) (by kernel_rfl) (by kernel_rfl) (fun _ _ _ h => h) (Or.inl ⟨by rfl, ?_⟩) ?_
            · intro w; go_simp
            try simp only [List.getElem_toArray, List.getElem_cons_zero, List.getElem_cons_succ, Act.put, List.setIfInBounds_toArray, List.set_cons_zero, List.set_cons_succ]
            refine wpAny_take (i := 23) (v := .bool false) rfl (by kernel_rfl) (by kernel_rfl) (by kernel_rfl) (fun _ _ _ h => h) (Or.inl ⟨by rfl, ?_⟩) ?_
            · intro w; go_simp
            try simp only [List.getElem_toArray, List.getElem_cons_zero, List.getElem_cons_succ, Act.put, List.setIfInBounds_toArray, List.set_cons_zero, List.set_cons_succ]
            refine wpAny_take (i := 24) (v := .bool false) rfl (by kernel_rfl) (by kernel_rfl) (by kernel_rfl) (fun _ _ _ h => h) (Or.inl ⟨by rfl, ?_⟩) ?_
            · intro w; go_simp
            try simp only [List.getElem_toArray, List.getElem_cons_zero, List.getElem_cons_succ, Act.put, List.setIfInBounds_toArray, List.set_cons_zero, List.set_cons_succ]
            refine wpAny_done (by kernel_rfl) ?_ _
            go_wp2_with (fail)
            go_meet
            exact ⟨rfl, Lib.hid h6⟩
        · go_simp
          refine hK _ _ ?_; clear hK K
          try simp only [List.getElem_toArray, List.getElem_cons_zero, List.getElem_cons_succ, Act.put, List.setIfInBounds_toArray, List.set_cons_zero, List.set_cons_succ]
          refine wpAny_ready (rs := [17]) (by kernel_rfl) (by simp) ?_
          refine AllReady.cons rfl (fun K hK => ?_) AllReady.nil
          go_simp
          refine hK _ _ ?_; clear hK K
          try simp only [List.getElem_toArray, List.getElem_cons_zero, List.getElem_cons_succ, Act.put, List.setIfInBounds_toArray, List.set_cons_zero, List.set_cons_succ]
          refine wpAny_ready (rs := [18]) (by kernel_rfl) (by simp) ?_
          refine AllReady.cons rfl (fun K hK => ?_) AllReady.nil
          go_simp; go_at_call 35; refine T3.out.mono ?_; rintro e w6 ⟨v6, rfl, hc6, hd6, h6⟩
          refine hK _ _ ?_; clear hK K
          try simp only [List.getElem_toArray, List.getElem_cons_zero, List.getElem_cons_succ, Act.put, List.setIfInBounds_toArray, List.set_cons_zero, List.set_cons_succ]
          refine wpAny_ready (rs := [19]) (by kernel_rfl) (by simp) ?_
          refine AllReady.cons rfl (fun K hK => ?_) AllReady.nil
          go_simp
          refine hK _ _ ?_; clear hK K
          try simp only [List.getElem_toArray, List.getElem_cons_zero, List.getElem_cons_succ, Act.put, List.setIfInBounds_toArray, List.set_cons_zero, List.set_cons_succ]
          refine wpAny_take (i := 22) (v := .bool false) rfl (by kernel_rfl) (by kernel_rfl) (by kernel_rfl) (fun _ _ _ h => h) (Or.inl ⟨by rfl, ?_⟩) ?_
          · intro w; go_simp
          try simp only [List.getElem_toArray, List.getElem_cons_zero, List.getElem_cons_succ, Act.put, List.setIfInBounds_toArray, List.set_cons_zero, List.set_cons_succ]
          refine wpAny_take (i := 23) (v := .bool false) rfl (by kernel_rfl) (by kernel_rfl) (by kernel_rfl) (fun _ _ _ h => h) (Or.inl ⟨by rfl, ?_⟩) ?_
          · intro w; go_simp
          try simp only [List.getElem_toArray, List.getElem_cons_zero, List.getElem_cons_succ, Act.put, List.setIfInBounds_toArray, List.set_cons_zero, List.set_cons_succ]
          refine wpAny_take (i := 24) (v := .bool false) rfl (by kernel_rfl) (by kernel_rfl) (by kernel_rfl) (fun _ _ _ h => h) (Or.inl ⟨by rfl, ?_⟩) ?_
          · intro w; go_simp
          try simp only [List.getElem_toArray, List.getElem_cons_zero, List.getElem_cons_succ, Act.put, List.setIfInBounds_toArray, List.set_cons_zero, List.set_cons_succ]
          refine wpAny_done (by kernel_rfl) ?_ _
          go_wp2_with (fail)
          go_meet
          exact ⟨rfl, Lib.hid h6⟩
  case rest =>
    obtain ⟨rfl, H6⟩ := hcut
    rcases HME.out with ⟨h1, h2, h3⟩ | ⟨h1, h2, h3⟩
    · subst h3
      have gI : ¬ (65504 : Int) < n := by omega
      have hm : (n : Int) + 32 = (m : Int) := by omega
      clear h1 h2
      go_wp2_with (fail)
      refine (REST.out wc H6.out).mono ?_
      rintro e w7 ⟨rfl, h7⟩
      go_wp2_with (fail)
      go_ret
      exact ⟨rfl, h7⟩
    · subst h2 h3
      have gI : (65504 : Int) < n := by omega
      clear h1
      go_wp2_with (fail)
      refine (refused_any As 0 cs 2 2 true wc (by decide)).mono ?_
      rintro e wc ⟨rfl, rfl⟩
      go_wp2_with (fail)
      refine (REST.out wc H6.out).mono ?_
      rintro e w7 ⟨rfl, h7⟩
      go_wp2_with (fail)
      go_ret
      exact ⟨rfl, h7⟩
end Go.Proofs.YtdjfklllfbenjaaDoor
