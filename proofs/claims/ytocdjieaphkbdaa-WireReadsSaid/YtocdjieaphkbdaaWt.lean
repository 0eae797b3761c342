/- The law WireNumbers. -/
import Derived.Test.YtocdjieaphkbdaaWs
import Derived.Deep.RegionHeld3
import Derived.Deep.RegionWith
import Derived.Deep.CutRange
import Derived.Deep.RegionHeld
namespace Go.Proofs.Ytocdjieaphkbdaa
open Go.RowKit

theorem rInt_grp {n : Int} (h1 : -9223372036854775808 ≤ n) (h2 : n ≤ 9223372036854775807) (r : List Int) : rInt (grp (fold n) ++ r) = .good n (grp (fold n)).length := by
  have h := ung_grp 9 0 0 (fold n) r (Nat.lt_of_lt_of_le (fold_lt h1 h2) (by decide)) (by simpa using fold_lt h1 h2) (by omega)
  unfold rInt
  rw [show (10 : Nat) = 9 + 1 from rfl, h]
  simp only [Nat.zero_add, Nat.pow_zero, Nat.mul_one, unf_fold]
theorem rUint_grp {n : Nat} (h : n < 9223372036854775808) (r : List Int) : rUint (grp n ++ r) = .good n (grp n).length := by
  have h := ung_grp 8 0 0 n r (Nat.lt_of_lt_of_le h (by decide)) (by omega) (by omega)
  unfold rUint
  rw [show (9 : Nat) = 8 + 1 from rfl, h]
  simp only [Nat.zero_add, Nat.pow_zero, Nat.mul_one]
theorem wInt_0 {n : Int} (h1 : -9223372036854775808 ≤ n) (h2 : n ≤ 9223372036854775807) : wInt ⟨0, []⟩ n = ⟨0, grp (fold n)⟩ := by
  have := grp_len10 (fold_lt h1 h2)
  unfold wInt wr
  rw [if_pos rfl, if_neg (by rw [List.nil_append]; omega)]
  rfl
theorem wUint_0 {n : Nat} (h : n < 18446744073709551616) : wUint ⟨0, []⟩ (n : Int) = ⟨0, grp n⟩ := by
  have := grp_len10 h
  unfold wUint wr
  rw [if_neg (by omega), if_pos rfl, Int.toNat_natCast, if_neg (by rw [List.nil_append]; omega)]
  rfl
theorem wUint_n {n : Int} (h : n < 0) : wUint ⟨0, []⟩ n = ⟨2, []⟩ := by
  unfold wUint
  rw [if_pos ⟨rfl, h⟩]
theorem two_writers (w : World) : WrAt ((w.alloc (.cells #[.int .i64 0, .slice none 0 0] 30)).alloc (.cells #[.int .i64 0, .slice none 0 0] 30)) w.heap.size (.slice none 0 0) ⟨0, []⟩ ∧
    WrAt ((w.alloc (.cells #[.int .i64 0, .slice none 0 0] 30)).alloc (.cells #[.int .i64 0, .slice none 0 0] 30)) (w.heap.size + 1) (.slice none 0 0) ⟨0, []⟩ := by
  refine ⟨(WrAt.new w).no (Ch.new _ _), ?_⟩
  have := WrAt.new (w.alloc (.cells #[.int .i64 0, .slice none 0 0] 30))
  rwa [show (w.alloc (.cells #[.int .i64 0, .slice none 0 0] 30)).heap.size = w.heap.size + 1 by simp] at this
theorem at_none {p i : Nat} (h : At p (.slice none 0 0) i) : i = p := by
  rcases h with h | h
  · exact h
  · cases h
set_option maxRecDepth 100000 in
set_option maxHeartbeats 8000000 in
theorem numbers_any {n : Int} (w : World) (h1 : -9223372036854775808 ≤ n) (h2 : n ≤ 9223372036854775807) : Calls Try.prog 5 #[.int .i64 n] w fun e w' => e = .returned (.bool true) ∧ Ch No w w' := by
  obtain ⟨p, hp⟩ : ∃ p, w.heap.size = p := ⟨_, rfl⟩
  obtain ⟨t1, t2⟩ := two_writers w
  rw [hp] at t1 t2
  have K0 := Lib.hid (((Ch.new w (.cells #[.int .i64 0, .slice none 0 0] 30)).alloc (.cells #[.int .i64 0, .slice none 0 0] 30)))
  have HP := Lib.hid hp
  have HU := Lib.hid (uint_any (n := n) t1 h2)
  have H2 := Lib.hid t2
  have HR := Lib.hid (show -9223372036854775808 ≤ n ∧ n ≤ 9223372036854775807 from ⟨h1, h2⟩)
  clear t1 t2 h1 h2
  go_enter Try.func5, Try.ntmps5
  go_wp2_with (fail)
  refine HU.out.mono ?_
  rintro r w1 ⟨rfl, v1, h1, k1, m1⟩
  have K1 := Lib.hid (show Ch No w w1 from K0.out.trans k1 fun i hi e => by have := at_none e; have := HP.out; omega)
  have H2b := Lib.hid (H2.out.ch k1 (fun e => by have := at_none e; omega) fun b e => by cases e)
  have S1 : Hid (p + 2 ≤ w1.heap.size) := Lib.hid (by have := H2b.out.lt; omega)
  have V1 : Hid (∀ b, v1.ownBlock = some b → p + 2 ≤ b) := Lib.hid fun b e => by
    rcases m1 with m | ⟨g, m, h⟩
    · rw [m] at e; cases e
    · rw [m] at e; injection e with e; have := HP.out; simp at h; omega
  have H1 := Lib.hid h1
  clear h1 k1 m1 H2 K0 HU
  go_wp2_with (fail)
  refine (int_any (n := n) H2b.out HR.out.1 HR.out.2).mono ?_
  rintro r w2 ⟨rfl, v2, h2, k2, -⟩
  rw [wInt_0 HR.out.1 HR.out.2] at h2
  have K2 := Lib.hid (show Ch No w w2 from K1.out.trans k2 fun i hi e => by have := at_none e; have := HP.out; omega)
  have H1b := Lib.hid (H1.out.ch k2 (fun e => by have := at_none e; omega) fun b e e' => by have := at_none e'; have := V1.out b e; omega)
  have H2c := Lib.hid h2
  clear h2 k2 K1 H1 H2b
  go_wp2_with (fail)
  refine (end_any H1b.out).mono ?_
  rintro r w3 ⟨va, rfl, oa, k3⟩
  have K3 := Lib.hid (K2.out.then k3)
  have OA := Lib.hid (oa.less (B' := p) (by have := K2.out.size; have := HP.out; omega))
  have H2d := Lib.hid (H2c.out.no k3)
  clear oa k3 K2 H1b H2c
  go_wp2_with (fail)
  refine (end_any H2d.out).mono ?_
  rintro r w4 ⟨vb, rfl, ob, k4⟩
  rw [outW_0] at ob
  have K4 := Lib.hid (K3.out.then k4)
  have OA4 := Lib.hid (OA.out.no k4)
  have OB := Lib.hid ob
  clear ob k4 K3 OA H2d
  go_wp2_with (fail)
  obtain ⟨sB, hsB⟩ : ∃ sB, strOfNums (grp (fold n)) = sB := ⟨_, rfl⟩
  have hcb : (convert 28 9 vb).run Try.prog w4.drew = .ok (.string sB) w4.drew := by rw [← hsB]; exact conv_rw OB.out.rw_
  have HFo := Lib.hid (fun W => refFold_any (n := n) (w := W) HR.out.1 HR.out.2)
  have HGr : Hid (∀ W, Ch No w4 W → Calls Try.prog 36 #[.int .u64 (fold n)] W fun r W' => ∃ v', r = .returned v' ∧ (convert 28 9 v').run Try.prog W' = .ok (.string sB) W' ∧ (convert 28 9 vb).run Try.prog W' = .ok (.string sB) W' ∧ Ch No w4 W') := Lib.hid fun W k => (refGroup_any (w := W) (n := fold n) (fold_lt HR.out.1 HR.out.2)).mono fun r W' h => by
    obtain ⟨v', e, o, k'⟩ := h
    exact ⟨v', e, by rw [← hsB]; exact conv_rw o.rw_, by rw [← hsB]; exact conv_rw (OB.out.no (k.then k')).rw_, k.then k'⟩
  have hrd : Ch No w4 w4.drew := (Ch.refl _ _).drew
  clear hsB
  go_upto_region 6 with (fail)
  go_cut [33] from 23 to 32 (fun v wx => v = .bool false ∧ Hid (Ch No w4 wx))
  case first =>
    go_region_with (first | (go_at_call 37; refine (HFo.out _).mono ?_; rintro r w5 ⟨rfl, rfl⟩) | (go_at_call 36; refine (HGr.out _ (by first | exact hrd | assumption)).mono ?_; rintro r w6 ⟨v6, rfl, hc6, hc6b, k6⟩))
    all_goals (go_wp2_with (fail))
    all_goals go_meet
    all_goals exact ⟨rfl, Lib.hid k6⟩
  case rest =>
    obtain ⟨rfl, H5⟩ := hcut
    have K5 := Lib.hid (K4.out.then H5.out)
    have OA5 := Lib.hid (OA4.out.no H5.out)
    have OB5 := Lib.hid (OB.out.no H5.out)
    clear hcb HFo HGr hrd K4 OA4 OB H5
    go_wp2_with (fail)
    refine (read_any OB5.out.rw_ (by have := grp_len10 (fold_lt HR.out.1 HR.out.2); omega) (grp_by _)).mono ?_
    rintro r w6 ⟨q, A, c, rfl, hq, hr, k6, -⟩
    have K6 := Lib.hid (K5.out.then k6)
    have OA6 := Lib.hid (OA5.out.no k6)
    have HQ : Hid (p ≤ q) := Lib.hid (by have := K5.out.size; have := HP.out; omega)
    have HQR : Hid (∀ b, va.ownBlock = some b → b < q) := Lib.hid fun b e => by have := (OA5.out.lt e).2; omega
    have RI := rint_ok hr
    rw [List.drop_zero, show rInt (grp (fold n)) = .good n (grp (fold n)).length by have := rInt_grp HR.out.1 HR.out.2 []; rwa [List.append_nil] at this] at RI
    have RI := Lib.hid RI
    clear hr hq k6 K5 OA5 OB5
    go_wp2_with (fail)
    refine RI.out.mono ?_
    rintro r w7 ⟨k7, ⟨x, rfl, rfl⟩, r7⟩
    have K7 := Lib.hid (show Ch No w w7 from K6.out.trans k7 fun i hi e => by have := HQ.out; have := HP.out; omega)
    have OA7 := Lib.hid (OA6.out.ch k7 fun b e e' => by have := HQR.out b e; omega)
    have HE := rend_ok r7
    rw [show endE 0 (0 + (grp (fold n)).length) (grp (fold n)).length = 0 by unfold endE; rw [if_pos rfl, if_neg (by omega)]] at HE
    have HE := Lib.hid HE
    clear k7 r7 RI K6 OA6
    have hnn : ((n : Int) != n) = false := by simp
    go_wp2_with (fail)
    refine HE.out.mono ?_
    rintro r w8 ⟨rfl, k8⟩
    have K8 := Lib.hid (K7.out.then k8)
    have OA8 := Lib.hid (OA7.out.no k8)
    clear k8 HE K7 OA7
    by_cases g : n < 0
    · rw [wUint_n g] at OA8 ⊢
      rw [outW_1 (by show ¬ (2 : Int) = 0; decide)] at OA8
      obtain ⟨Aa, ca, rfl⟩ := OA8.out.shape
      have HKn := Lib.hid (known_any w8)
      simp only
      go_wp2_with (fail)
      refine HKn.out.mono ?_
      rintro r w9 ⟨rfl, k9⟩
      have K9 := Lib.hid (K8.out.then k9)
      clear k9
      go_wp2_with (fail)
      go_ret
      exact ⟨rfl, K9.out⟩
    · obtain ⟨m, rfl⟩ := Int.eq_ofNat_of_zero_le (by omega : 0 ≤ n)
      have hm : m < 9223372036854775808 := by have := HR.out.2; omega
      rw [wUint_0 (by omega)] at OA8 ⊢
      rw [outW_0] at OA8
      simp only
      have HM := Lib.hid hm
      have hw : IntKind.u64.wrap (m : Int) = m := by rw [IntKind.wrap_u64]; omega
      go_wp2_with (fail)
      refine (read_any OA8.out.rw_ (by have := grp_len10 (n := m) (by have := HM.out; omega); omega) (grp_by _)).mono ?_
      rintro r w9 ⟨q2, A2, c2, rfl, hq2, hr2, k9, -⟩
      have K9 := Lib.hid (K8.out.then k9)
      have OA9 := Lib.hid (OA8.out.no k9)
      have HQ2 : Hid (p ≤ q2 ∧ ∀ b, va.ownBlock = some b → b < q2) := Lib.hid ⟨by have := K8.out.size; have := HP.out; omega, fun b e => by have := (OA8.out.lt e).2; omega⟩
      have R9 := Lib.hid hr2
      obtain ⟨sA, hsA⟩ : ∃ sA, strOfNums (grp m) = sA := ⟨_, rfl⟩
      have hca : (convert 28 9 va).run Try.prog w9.drew = .ok (.string sA) w9.drew := by rw [← hsA]; exact conv_rw OA9.out.rw_
      have HGr : Hid (∀ W, Ch No w9 W → Calls Try.prog 36 #[.int .u64 m] W fun r W' => ∃ v', r = .returned v' ∧ (convert 28 9 v').run Try.prog W' = .ok (.string sA) W' ∧ Ch No w9 W') := Lib.hid fun W k => (refGroup_any (w := W) (n := m) (by have := HM.out; omega)).mono fun r W' h => by
        obtain ⟨v', e, o, k'⟩ := h
        exact ⟨v', e, by rw [← hsA]; exact conv_rw o.rw_, k.then k'⟩
      have hrd : Ch No w9 w9.drew := (Ch.refl _ _).drew
      have HKEEP : Hid (∀ W, Ch (fun i => i = q2) w9 W → (convert 28 9 va).run Try.prog W = .ok (.string sA) W) := Lib.hid fun W k => by rw [← hsA]; exact conv_rw (OA9.out.ch k fun b e e' => by have := HQ2.out.2 b e; omega).rw_
      have HRU : Hid (∀ W, Ch No w9 W → Calls Try.prog 22 #[.pointer (some ⟨q2, 0, none⟩)] W fun r W' => r = .returned (.int .i64 m) ∧ RdAt W' q2 A2 (grp m).length c2 (grp m) 0 (grp m).length ∧ Ch (fun i => i = q2) w9 W') := Lib.hid fun W k => by
        have RU := ruint_ok (R9.out.no k)
        rw [List.drop_zero, show rUint (grp m) = .good m (grp m).length by have := rUint_grp HM.out []; rwa [List.append_nil] at this] at RU
        refine RU.mono ?_
        rintro r W' ⟨k', ⟨x, rfl, rfl⟩, h'⟩
        rw [Nat.zero_add] at h'
        exact ⟨rfl, h', k.after k'⟩
      have HRE : Hid (∀ W, RdAt W q2 A2 (grp m).length c2 (grp m) 0 (grp m).length → Ch (fun i => i = q2) w9 W → Calls Try.prog 33 #[.pointer (some ⟨q2, 0, none⟩)] W fun r W' => r = .returned (.int .i64 0) ∧ Ch (fun i => i = q2) w9 W') := Lib.hid fun W h k => (rend_ok h).mono fun r W' h' => by
        rw [show endE 0 (grp m).length (grp m).length = 0 by unfold endE; rw [if_pos rfl, if_neg (by omega)]] at h'
        exact ⟨h'.1, k.then h'.2⟩
      have HKn : Hid (∀ W, Ch (fun i => i = q2) w9 W → Calls Try.prog 11 #[] W fun r W' => r = .returned (.bool true) ∧ Ch (fun i => i = q2) w9 W') := Lib.hid fun W k => (known_any W).mono fun r W' h' => ⟨h'.1, k.then h'.2⟩
      have HEND : Hid (∀ W, Ch (fun i => i = q2) w9 W → Ch No w W) := Lib.hid fun W k => K9.out.trans k fun i hi e => by have := HQ2.out.1; have := HP.out; omega
      clear hq2 hr2 k9 K8 OA8 hsA
      go_upto_region 14 with (fail)
      refine wp_region_held_drew (S := fun w' => (convert 28 9 va).run Try.prog w' = .ok (.string sA) w') (by kernel_rfl) (HKEEP.out _ hrd.no) (fun hS => ?_)
      refine wpAnyH_take (i := 0) (v := .int .i64 0) rfl (by kernel_rfl) (by kernel_rfl) (by kernel_rfl) (fun _ _ _ h => h) (Or.inl ⟨by rfl, ?_⟩) hS ?_
      · intro w hSw; go_simp
      try simp only [List.getElem_toArray, List.getElem_cons_zero, List.getElem_cons_succ, Act.put, List.setIfInBounds_toArray, List.set_cons_zero, List.set_cons_succ]
      refine wpAnyH_take (i := 1) (v := .bool true) rfl (by kernel_rfl) (by kernel_rfl) (by kernel_rfl) (fun _ _ _ h => h) (Or.inl ⟨by rfl, ?_⟩) hS ?_
      · intro w hSw; go_simp
      try simp only [List.getElem_toArray, List.getElem_cons_zero, List.getElem_cons_succ, Act.put, List.setIfInBounds_toArray, List.set_cons_zero, List.set_cons_succ]
      refine wpAnyH_take (i := 2) (v := .bool true) rfl (by kernel_rfl) (by kernel_rfl) (by kernel_rfl) (fun _ _ _ h => h) (Or.inl ⟨by rfl, ?_⟩) hS ?_
      · intro w hSw; go_simp
      try simp only [List.getElem_toArray, List.getElem_cons_zero, List.getElem_cons_succ, Act.put, List.setIfInBounds_toArray, List.set_cons_zero, List.set_cons_succ]
      refine wpAnyH_take (i := 3) (v := va) rfl (by kernel_rfl) (by kernel_rfl) (by kernel_rfl) (fun _ _ _ h => h) (Or.inl ⟨by rfl, ?_⟩) hS ?_
      · intro w hSw; go_simp
      try simp only [List.getElem_toArray, List.getElem_cons_zero, List.getElem_cons_succ, Act.put, List.setIfInBounds_toArray, List.set_cons_zero, List.set_cons_succ]
      refine wpAnyH_take (i := 4) (v := .string sA) rfl (by kernel_rfl) (by kernel_rfl) (by kernel_rfl) (fun _ _ _ h => h) (Or.inl ⟨by rfl, ?_⟩) hS ?_
      · intro w hSw; go_simp
      try simp only [List.getElem_toArray, List.getElem_cons_zero, List.getElem_cons_succ, Act.put, List.setIfInBounds_toArray, List.set_cons_zero, List.set_cons_succ]
      refine wpAnyH_take (i := 5) (v := .int .i64 m) rfl (by kernel_rfl) (by kernel_rfl) (by kernel_rfl) (fun _ _ _ h => h) (Or.inl ⟨by rfl, ?_⟩) hS ?_
      · intro w hSw; go_simp
      try simp only [List.getElem_toArray, List.getElem_cons_zero, List.getElem_cons_succ, Act.put, List.setIfInBounds_toArray, List.set_cons_zero, List.set_cons_succ]
      refine wpAnyH_take (i := 6) (v := .int .u64 m) rfl (by kernel_rfl) (by kernel_rfl) (by kernel_rfl) (fun _ _ _ h => h) (Or.inl ⟨by rfl, ?_⟩) hS ?_
      · intro w hSw; go_simp
      try simp only [List.getElem_toArray, List.getElem_cons_zero, List.getElem_cons_succ, Act.put, List.setIfInBounds_toArray, List.set_cons_zero, List.set_cons_succ]
      refine wpAnyH_ready (rs := [7]) (by kernel_rfl) (by simp) ?_
      refine AllReadyH.cons rfl (fun K hK => ?_) AllReadyH.nil
      go_simp; go_at_call 36; refine (HGr.out _ hrd).mono ?_; rintro r w10 ⟨v10, rfl, hc10, k10⟩
      refine hK.out _ _ (HKEEP.out _ k10.no) (fun hS => ?_); clear hK K
      try simp only [List.getElem_toArray, List.getElem_cons_zero, List.getElem_cons_succ, Act.put, List.setIfInBounds_toArray, List.set_cons_zero, List.set_cons_succ]
      refine wpAnyH_ready (rs := [8]) (by kernel_rfl) (by simp) ?_
      refine AllReadyH.cons rfl (fun K hK => ?_) AllReadyH.nil
      go_simp
      refine hK.out _ _ (HKEEP.out _ k10.no) (fun hS => ?_); clear hK K
      try simp only [List.getElem_toArray, List.getElem_cons_zero, List.getElem_cons_succ, Act.put, List.setIfInBounds_toArray, List.set_cons_zero, List.set_cons_succ]
      refine wpAnyH_take (i := 9) (v := .bool true) rfl (by kernel_rfl) (by kernel_rfl) (by kernel_rfl) (fun _ _ _ h => h) (Or.inl ⟨by rfl, ?_⟩) hS ?_
      · intro w hSw; go_simp
      try simp only [List.getElem_toArray, List.getElem_cons_zero, List.getElem_cons_succ, Act.put, List.setIfInBounds_toArray, List.set_cons_zero, List.set_cons_succ]
      refine wpAnyH_take (i := 10) (v := .bool true) rfl (by kernel_rfl) (by kernel_rfl) (by kernel_rfl) (fun _ _ _ h => h) (Or.inl ⟨by rfl, ?_⟩) hS ?_
      · intro w hSw; go_simp
      try simp only [List.getElem_toArray, List.getElem_cons_zero, List.getElem_cons_succ, Act.put, List.setIfInBounds_toArray, List.set_cons_zero, List.set_cons_succ]
      refine wpAnyH_take (i := 11) (v := .bool true) rfl (by kernel_rfl) (by kernel_rfl) (by kernel_rfl) (fun _ _ _ h => h) (Or.inl ⟨by rfl, ?_⟩) hS ?_
      · intro w hSw; go_simp
      try simp only [List.getElem_toArray, List.getElem_cons_zero, List.getElem_cons_succ, Act.put, List.setIfInBounds_toArray, List.set_cons_zero, List.set_cons_succ]
      refine wpAnyH_take (i := 12) (v := .pointer (some ⟨q2, 0, none⟩)) rfl (by kernel_rfl) (by kernel_rfl) (by kernel_rfl) (fun _ _ _ h => h) (Or.inl ⟨by rfl, ?_⟩) hS ?_
      · intro w hSw; go_simp
      try simp only [List.getElem_toArray, List.getElem_cons_zero, List.getElem_cons_succ, Act.put, List.setIfInBounds_toArray, List.set_cons_zero, List.set_cons_succ]
      refine wpAnyH_take (i := 13) (v := .bool true) rfl (by kernel_rfl) (by kernel_rfl) (by kernel_rfl) (fun _ _ _ h => h) (Or.inl ⟨by rfl, ?_⟩) hS ?_
      · intro w hSw; go_simp
      try simp only [List.getElem_toArray, List.getElem_cons_zero, List.getElem_cons_succ, Act.put, List.setIfInBounds_toArray, List.set_cons_zero, List.set_cons_succ]
      refine wpAnyH_take (i := 14) (v := .bool true) rfl (by kernel_rfl) (by kernel_rfl) (by kernel_rfl) (fun _ _ _ h => h) (Or.inl ⟨by rfl, ?_⟩) hS ?_
      · intro w hSw; go_simp
      try simp only [List.getElem_toArray, List.getElem_cons_zero, List.getElem_cons_succ, Act.put, List.setIfInBounds_toArray, List.set_cons_zero, List.set_cons_succ]
      refine wpAnyH_take (i := 15) (v := .bool true) rfl (by kernel_rfl) (by kernel_rfl) (by kernel_rfl) (fun _ _ _ h => h) (Or.inl ⟨by rfl, ?_⟩) hS ?_
      · intro w hSw; go_simp
      try simp only [List.getElem_toArray, List.getElem_cons_zero, List.getElem_cons_succ, Act.put, List.setIfInBounds_toArray, List.set_cons_zero, List.set_cons_succ]
      refine wpAnyH_take (i := 16) (v := .pointer (some ⟨q2, 0, none⟩)) rfl (by kernel_rfl) (by kernel_rfl) (by kernel_rfl) (fun _ _ _ h => h) (Or.inl ⟨by rfl, ?_⟩) hS ?_
      · intro w hSw; go_simp
      try simp only [List.getElem_toArray, List.getElem_cons_zero, List.getElem_cons_succ, Act.put, List.setIfInBounds_toArray, List.set_cons_zero, List.set_cons_succ]
      refine wpAnyH_take (i := 18) (v := .int .i64 m) rfl (by kernel_rfl) (by kernel_rfl) (by kernel_rfl) (fun _ _ _ h => h) (Or.inl ⟨by rfl, ?_⟩) hS ?_
      · intro w hSw; go_simp
      try simp only [List.getElem_toArray, List.getElem_cons_zero, List.getElem_cons_succ, Act.put, List.setIfInBounds_toArray, List.set_cons_zero, List.set_cons_succ]
      refine wpAnyH_ready (rs := [17]) (by kernel_rfl) (by simp) ?_
      refine AllReadyH.cons rfl (fun K hK => ?_) AllReadyH.nil
      go_simp; go_at_call 22; refine (HRU.out _ k10).mono ?_; rintro r w11 ⟨rfl, r11, k11⟩
      refine hK.out _ _ (HKEEP.out _ k11) (fun hS => ?_); clear hK K
      try simp only [List.getElem_toArray, List.getElem_cons_zero, List.getElem_cons_succ, Act.put, List.setIfInBounds_toArray, List.set_cons_zero, List.set_cons_succ]
      refine wpAnyH_take (i := 19) (v := .bool true) rfl (by kernel_rfl) (by kernel_rfl) (by kernel_rfl) (fun _ _ _ h => h) (Or.inl ⟨by rfl, ?_⟩) hS ?_
      · intro w hSw; go_simp
      try simp only [List.getElem_toArray, List.getElem_cons_zero, List.getElem_cons_succ, Act.put, List.setIfInBounds_toArray, List.set_cons_zero, List.set_cons_succ]
      refine wpAnyH_take (i := 20) (v := .bool true) rfl (by kernel_rfl) (by kernel_rfl) (by kernel_rfl) (fun _ _ _ h => h) (Or.inl ⟨by rfl, ?_⟩) hS ?_
      · intro w hSw; go_simp
      try simp only [List.getElem_toArray, List.getElem_cons_zero, List.getElem_cons_succ, Act.put, List.setIfInBounds_toArray, List.set_cons_zero, List.set_cons_succ]
      refine wpAnyH_take (i := 21) (v := .bool true) rfl (by kernel_rfl) (by kernel_rfl) (by kernel_rfl) (fun _ _ _ h => h) (Or.inl ⟨by rfl, ?_⟩) hS ?_
      · intro w hSw; go_simp
      try simp only [List.getElem_toArray, List.getElem_cons_zero, List.getElem_cons_succ, Act.put, List.setIfInBounds_toArray, List.set_cons_zero, List.set_cons_succ]
      refine wpAnyH_take (i := 22) (v := .pointer (some ⟨q2, 0, none⟩)) rfl (by kernel_rfl) (by kernel_rfl) (by kernel_rfl) (fun _ _ _ h => h) (Or.inl ⟨by rfl, ?_⟩) hS ?_
      · intro w hSw; go_simp
      try simp only [List.getElem_toArray, List.getElem_cons_zero, List.getElem_cons_succ, Act.put, List.setIfInBounds_toArray, List.set_cons_zero, List.set_cons_succ]
      refine wpAnyH_ready (rs := [23]) (by kernel_rfl) (by simp) ?_
      refine AllReadyH.cons rfl (fun K hK => ?_) AllReadyH.nil
      go_simp; go_at_call 33; refine (HRE.out _ r11 k11).mono ?_; rintro r w12 ⟨rfl, k12⟩
      refine hK.out _ _ (HKEEP.out _ k12) (fun hS => ?_); clear hK K
      try simp only [List.getElem_toArray, List.getElem_cons_zero, List.getElem_cons_succ, Act.put, List.setIfInBounds_toArray, List.set_cons_zero, List.set_cons_succ]
      refine wpAnyH_take (i := 24) (v := .bool true) rfl (by kernel_rfl) (by kernel_rfl) (by kernel_rfl) (fun _ _ _ h => h) (Or.inl ⟨by rfl, ?_⟩) hS ?_
      · intro w hSw; go_simp
      try simp only [List.getElem_toArray, List.getElem_cons_zero, List.getElem_cons_succ, Act.put, List.setIfInBounds_toArray, List.set_cons_zero, List.set_cons_succ]
      refine wpAnyH_take (i := 25) (v := .bool true) rfl (by kernel_rfl) (by kernel_rfl) (by kernel_rfl) (fun _ _ _ h => h) (Or.inl ⟨by rfl, ?_⟩) hS ?_
      · intro w hSw; go_simp
      try simp only [List.getElem_toArray, List.getElem_cons_zero, List.getElem_cons_succ, Act.put, List.setIfInBounds_toArray, List.set_cons_zero, List.set_cons_succ]
      refine wpAnyH_take (i := 26) (v := .bool true) rfl (by kernel_rfl) (by kernel_rfl) (by kernel_rfl) (fun _ _ _ h => h) (Or.inl ⟨by rfl, ?_⟩) hS ?_
      · intro w hSw; go_simp
      try simp only [List.getElem_toArray, List.getElem_cons_zero, List.getElem_cons_succ, Act.put, List.setIfInBounds_toArray, List.set_cons_zero, List.set_cons_succ]
      refine wpAnyH_ready (rs := [27]) (by kernel_rfl) (by simp) ?_
      refine AllReadyH.cons rfl (fun K hK => ?_) AllReadyH.nil
      go_simp; go_at_call 11; refine (HKn.out _ k12).mono ?_; rintro r w13 ⟨rfl, k13⟩
      refine hK.out _ _ (HKEEP.out _ k13) (fun hS => ?_); clear hK K
      try simp only [List.getElem_toArray, List.getElem_cons_zero, List.getElem_cons_succ, Act.put, List.setIfInBounds_toArray, List.set_cons_zero, List.set_cons_succ]
      refine wpAnyH_take (i := 28) (v := .bool true) rfl (by kernel_rfl) (by kernel_rfl) (by kernel_rfl) (fun _ _ _ h => h) (Or.inl ⟨by rfl, ?_⟩) hS ?_
      · intro w hSw; go_simp
      try simp only [List.getElem_toArray, List.getElem_cons_zero, List.getElem_cons_succ, Act.put, List.setIfInBounds_toArray, List.set_cons_zero, List.set_cons_succ]
      refine wpAnyH_take (i := 29) (v := .bool true) rfl (by kernel_rfl) (by kernel_rfl) (by kernel_rfl) (fun _ _ _ h => h) (Or.inl ⟨by rfl, ?_⟩) hS ?_
      · intro w hSw; go_simp
      try simp only [List.getElem_toArray, List.getElem_cons_zero, List.getElem_cons_succ, Act.put, List.setIfInBounds_toArray, List.set_cons_zero, List.set_cons_succ]
      refine wpAnyH_done (by kernel_rfl) ?_ _
      go_wp2_with (fail)
      go_ret
      exact ⟨rfl, HEND.out _ k13⟩
end Go.Proofs.Ytocdjieaphkbdaa
