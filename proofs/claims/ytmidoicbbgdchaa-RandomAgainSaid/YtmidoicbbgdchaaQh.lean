/- The statement RandomShuffles: the walk. -/
import Derived.Test.YtmidoicbbgdchaaQg
import Derived.Test.YtmidoicbbgdchaaQf
namespace Go.Proofs.Ytmidoicbbgdchaa
open Go.RowKit

theorem OwnI.alloc {w : World} {B : Nat} {v : Value} {ds : List Int} (h : OwnI w B v ds) (o : Obj) : OwnI (w.alloc o) B v ds := World.ownsRow.alloc h o
theorem OwnI.below {w w' : World} {B C : Nat} {v : Value} {ds : List Int} (h : OwnI w B v ds) (hb : Below C w w') (hC : w.heap.size ≤ C) : OwnI w' B v ds := by
  refine ⟨h.1, ?_⟩
  rcases h.2 with h2 | ⟨g, cap, cur, e, hB, hg, r⟩
  · exact .inl h2
  · exact .inr ⟨g, cap, cur, e, hB, (hb.block g (Nat.lt_of_lt_of_le (Array.getElem?_eq_some_iff.1 hg).1 hC)).trans hg, r⟩
theorem Src.belowC {w w' : World} {p C : Nat} {s : Int} (h : Src w p s) (hb : Below C w w') (hC : p < C) : Src w' p s := (hb.block p hC).trans h
theorem ups_succ (k : Nat) : ups k ++ [(k : Int)] = ups (k + 1) := by
  unfold ups; rw [List.range_succ, List.map_append]; rfl
theorem ups_zero : ups 0 = [] := rfl
set_option maxRecDepth 100000 in
set_option maxHeartbeats 4000000 in
theorem shuffles_ok (z : Int) (n : Nat) (w : World) (hn : n ≤ 200) :
    Calls Try.prog 7 #[.int .i64 z, .int .i64 n] w fun e w' => e = .returned (.bool true) ∧ Below w.heap.size w w' := by
  have g1 : decide ((n : Int) < 0) = false := by simp
  have g2 : decide ((200 : Int) < (n : Int)) = false := by simp; omega
  obtain ⟨s0, hs0⟩ : ∃ s0, IntKind.u64.wrap z = s0 := ⟨_, rfl⟩
  have HS0 := Lib.hid hs0
  clear hs0
  go_enter Try.func7, Try.ntmps7
  go_wp2_with (fail)
  refine (new_to HS0.out w).mono ?_
  rintro e w1 ⟨rfl, s1, b1, z1⟩
  go_wp2_with (fail)
  refine (new_to HS0.out w1).mono ?_
  rintro e w2 ⟨rfl, t1, b2, z2⟩
  have S1 := Lib.hid (s1.below b2)
  have T1 := Lib.hid t1
  have B2 := Lib.hid (b1.trans (b2.mono (by omega)))
  generalize hp1 : w.heap.size = p1 at *
  have HP := Lib.hid hp1
  have L2 := Lib.hid (show p1 < w1.heap.size ∧ w1.heap.size < w2.heap.size from ⟨by omega, by omega⟩)
  generalize hp2 : w1.heap.size = p2 at *
  clear s1 t1 b1 b2 hp1 hp2 z1 z2
  go_wp2_with (fail)
  refine (shuffle_any n S1.out (by omega)).mono ?_
  rintro e w3 ⟨rfl, o3, s3, b3⟩
  have T3 := Lib.hid (T1.out.but b3 (by have := L2.out; omega))
  have S3 := Lib.hid s3
  have O3 := Lib.hid o3
  have B3 := Lib.hid (B2.out.trans (b3.below (Nat.le_refl _) (by have := L2.out; omega)))
  have L3 := Lib.hid (show p1 < p2 ∧ p2 < w2.heap.size ∧ w2.heap.size < w3.heap.size from ⟨L2.out.1, L2.out.2, o3.lt⟩)
  generalize w2.heap.size = g at *
  clear L2 S1 T1 B2 o3 s3 b3
  go_wp2_with (fail)
  obtain ⟨C, hC⟩ : ∃ C, C = w3.heap.size := ⟨_, rfl⟩
  have HC := Lib.hid hC
  clear hC
  go_loopw [9, 10] (fun mv i wr => ∃ k : Nat, k ≤ n ∧ i = .int .i64 k ∧ Hid (OwnI wr C mv (ups k)) ∧ Hid (Below C w3 wr) ∧ C ≤ wr.heap.size) (fun _ i _ => n - (intOf i).toNat)
  case atStart => exact ⟨0, by omega, rfl, Lib.hid OwnI.nil_, Lib.hid (Below.refl _ _), Nat.le_of_eq HC.out⟩
  case round =>
    obtain ⟨k, hk, rfl, ho, hb, hcw⟩ := hrel
    by_cases gk : k < n
    · have gI : (k : Int) < (n : Int) := by omega
      go_wp2_with (at_builtin; refine appI rfl _ _ _ rfl Try.underlying38 rfl (ho.out.alloc _) (hb.out.alloc (by assumption) _) ?c1 wr.heap.size (k : Int) rfl ?c2 ?c3 ?_)
      case c1 => simp; omega
      case c2 => simp
      case c3 => simp [ups]; omega
      intro v' w5 o5 b5
      rw [ups_succ] at o5
      have O5 := Lib.hid o5
      have B5 := Lib.hid b5
      have L5 : C ≤ w5.heap.size := by have := b5.size; have := HC.out; omega
      clear o5 b5 ho hb hcw
      go_wp2_with (fail)
      go_roundw
      case rel => exact ⟨k + 1, by omega, by go_num, O5, B5, L5⟩
      case measure => simp [intOf]; omega
    · obtain rfl : k = n := by omega
      have hC := HC.out
      have S4 := Lib.hid (S3.out.belowC hb.out (by have := L3.out; omega))
      have T4 := Lib.hid (T3.out.belowC hb.out (by have := L3.out; omega))
      have O4 := Lib.hid (O3.out.below hb.out (by omega))
      have B4 := Lib.hid (B3.out.trans (hb.out.mono (by have := L3.out; omega)))
      have L4 := Lib.hid (show p1 < p2 ∧ p2 < g ∧ g < C from ⟨L3.out.1, L3.out.2.1, by have := L3.out; omega⟩)
      clear S3 T3 O3 B3 L3 hb hC HC
      obtain ⟨A, c, rfl, hf⟩ := ho.out.form
      have HA := Lib.hid (show 0 < k → ∃ h, A = some ⟨h, 0, none⟩ ∧ C ≤ h from fun h0 => by obtain ⟨h, e, h1, -⟩ := hf (by rw [ups_len]; exact h0); exact ⟨h, e, h1⟩)
      rw [ups_len] at ho ⊢
      clear hf
      have hwn : IntKind.i64.wrap ((k : Int) - 1) = (k : Int) - 1 := by rw [IntKind.wrap_i64]; omega
      go_wp2_with (fail)
      go_loopw [11, 12, 13] (fun i _ _ wx => ∃ (ii : Int) (m : Nat) (t : Int) (l : List Int), i = .int .i64 ii ∧ -1 ≤ ii ∧ ii ≤ 4096 ∧ Hid (ShInv k s0 ii m t l) ∧ Hid (OwnI wx C (.slice A k c) l) ∧ Hid (Src wx p2 t) ∧ Hid (Src wx p1 (shufS k s0)) ∧ Hid (OwnI wx g (.slice (some ⟨g, 0, none⟩) k k) (shufL k s0)) ∧ Hid (Below p1 w wx)) (fun i _ _ _ => (intOf i).toNat)
      case atStart => exact ⟨_, _, _, _, rfl, by omega, by omega, Lib.hid (shInv_start k s0), ho, T4, S4, O4, B4⟩
      case round =>
        obtain ⟨ii, m, t, l, rfl, i0, i1, hv, ho2, ht, hs, hg, hb2⟩ := hrel
        clear T4 S4 O4 B4 ho
        by_cases gi : 0 < ii
        · obtain ⟨e1, e2⟩ := hv.out.1 gi
          subst e1
          obtain ⟨h, hAe, hCh⟩ := HA.out (by omega)
          subst hAe
          obtain ⟨i, hm⟩ : ∃ i, m = i + 1 := ⟨m - 1, by omega⟩
          obtain ⟨q, hq⟩ : ∃ q, q = i + 2 := ⟨_, rfl⟩
          have hst := hv.out
          rw [hm] at hst
          have HST := shInv_step hst
          rw [← hq, ← hm] at HST
          have hlen : l.length = k := hv.out.2.2.1
          have HBE := Lib.hid (number_ok (q : Int) ht.out (by omega) (by omega))
          obtain ⟨n0, n1⟩ := numV_b (n := (q : Int)) (s := t) (by omega) (by omega)
          obtain ⟨j, hj⟩ := Int.eq_ofNat_of_zero_le n0
          rw [hj] at HBE HST n1
          rw [Int.toNat_natCast] at HST
          have HST := Lib.hid HST
          generalize numS (q : Int) t = t2 at *
          have a1 : IntKind.i64.wrap ((m : Int) + 1) = (q : Int) := by rw [IntKind.wrap_i64]; omega
          have a3 : IntKind.i64.wrap ((m : Int) - 1) = (i : Int) := by rw [IntKind.wrap_i64]; omega
          have gm : m < k := e2
          have gj : j < k := by omega
          have gj0 : decide ((j : Int) < 0) = false := by simp
          have gj1 : decide (m < j) = false := by simp; omega
          have gim : i < m := by omega
          have gi4 : -1 ≤ (i : Int) ∧ (i : Int) ≤ 4096 := by omega
          clear hv hj n0 i0 i1 hm hq hst n1 e2
          go_wp2_with (fail)
          refine HBE.out.mono ?_
          rintro e wy ⟨rfl, s3, b3⟩
          have ho3 := ho2.out.but b3 (by have := L4.out; omega)
          have cI := ho3.cellAt (j := m) (by omega)
          have cJ := ho3.cellAt (j := j) (by omega)
          have fI := ho3.freeAt m
          have fJ := ho3.freeAt j
          have o4 := ho3.set_ (j := m) (l[j]?.getD 0)
          have c4 := o4.cellAt (j := j) (by simp; omega)
          have f4 := o4.freeAt j
          have o5 := o4.set_ (j := j) (l[m]?.getD 0)
          have HO5 := Lib.hid (show OwnI _ C _ (swp l m j) from o5)
          have HT5 := Lib.hid ((s3.far (g := h) (k := m) (by have := L4.out; omega) (.int .i64 (l[j]?.getD 0))).far (g := h) (k := j) (by have := L4.out; omega) (.int .i64 (l[m]?.getD 0)))
          have hs3 := hs.out.but b3 (by have := L4.out; omega)
          have HS5 := Lib.hid ((hs3.far (g := h) (k := m) (by have := L4.out; omega) (.int .i64 (l[j]?.getD 0))).far (g := h) (k := j) (by have := L4.out; omega) (.int .i64 (l[m]?.getD 0)))
          have hg3 := hg.out.but b3 (by have := L4.out; omega)
          have HG5 := Lib.hid ((hg3.same (Below.heap_setCell wy ⟨h, m, none⟩ (.int .i64 (l[j]?.getD 0)) g (by show g ≠ h; have := L4.out; omega))).same (Below.heap_setCell (wy.setCell ⟨h, m, none⟩ (.int .i64 (l[j]?.getD 0))) ⟨h, j, none⟩ (.int .i64 (l[m]?.getD 0)) g (by show g ≠ h; have := L4.out; omega)))
          have HB5 := Lib.hid (((hb2.out.trans (b3.below (by have := L4.out; omega) (by have := hs.out.lt; omega))).setCell (p := ⟨h, m, none⟩) (by show p1 ≤ h; have := L4.out; omega) (.int .i64 (l[j]?.getD 0))).setCell (p := ⟨h, j, none⟩) (by show p1 ≤ h; have := L4.out; omega) (.int .i64 (l[m]?.getD 0)))
          have kI : (m : Int) < (k : Int) := by omega
          have kJ : (j : Int) < (k : Int) := by omega
          clear ho2 hs ht hg hb2 o4 o5 ho3 s3 b3 hs3 hg3
          generalize l[j]?.getD 0 = xj at *
          generalize l[m]?.getD 0 = xm at *
          generalize (l.set m xj)[j]?.getD 0 = yj at *
          go_wp2_with (fail)
          go_region
          all_goals
            go_wp2_with (fail)
            go_roundw
            case rel => exact ⟨_, i, t2, _, rfl, by omega, by omega, HST, Lib.hid HO5.out.drew, Lib.hid (by exact HT5.out), Lib.hid (by exact HS5.out), Lib.hid HG5.out.drew, Lib.hid HB5.out.drew⟩
            case measure => simp [intOf]; omega
        · obtain ⟨e1, e2⟩ := shInv_end hv.out (by omega)
          have gd : decide (0 < ii) = false := by simp; omega
          subst e1
          have hle : l.length = k := hv.out.2.2.1
          subst e2
          have HEQ := Lib.hid (equal_any hg.out ho2.out (by omega))
          have HW1 := Lib.hid (fun q : Nat => word_to (x := wd (nx (shufS k s0))) (show Src (_root_.Go.World.drewN _ q) p1 _ from hs.out) rfl)
          clear gi hv
          go_wp2_with (fail)
          refine HEQ.out.mono ?_
          rintro e wz ⟨rfl, q, rfl⟩
          go_wp2_with (fail)
          refine (HW1.out q).mono ?_
          rintro e w6 ⟨rfl, -, b6, -⟩
          have T6 := Lib.hid (show Src w6 p2 (shufS k s0) from (show Src (_root_.Go.World.drewN _ q) p2 _ from ht.out).but b6 (by have := L4.out; omega))
          have B6 := Lib.hid ((below_drewN hb2.out q).trans (b6.below (Nat.le_refl _) (Nat.le_of_lt (show Src (_root_.Go.World.drewN _ q) p1 _ from hs.out).lt)))
          clear b6 hs ht hb2 hg ho2 HEQ HW1
          go_wp2_with (fail)
          refine (word_to (x := wd (nx (shufS k s0))) T6.out rfl).mono ?_
          rintro e w7 ⟨rfl, t7, b7, -⟩
          have B7 := Lib.hid (B6.out.trans (b7.below (by have := L4.out; omega) (by have := T6.out.lt; have := L4.out; omega)))
          have L7 := Lib.hid (show p1 ≤ w7.heap.size by have := t7.lt; have := L4.out; omega)
          clear b7 t7 B6 T6
          go_wp2_with (fail)
          refine (known_any _).mono ?_
          rintro e w8 ⟨rfl, q8⟩
          have B8 := Lib.hid (B7.out.trans (q8.mono L7.out))
          clear q8 B7
          go_wp2_with (fail)
          go_ret
          exact ⟨rfl, by rw [HP.out]; exact B8.out⟩
theorem shuffles_no (z n : Int) (w : World) (hn : n < 0 ∨ 200 < n) :
    Calls Try.prog 7 #[.int .i64 z, .int .i64 n] w fun e w' => e = .returned (.bool true) ∧ Below w.heap.size w w' := by
  have HK := Lib.hid (known_any w)
  by_cases g : n < 0
  · have g1 : decide (n < 0) = true := by simp; omega
    clear hn g
    go_enter Try.func7, Try.ntmps7
    go_wp2_with (fail)
    refine HK.out.mono ?_
    rintro e w1 ⟨rfl, q⟩
    have HQ := Lib.hid q
    clear q
    go_wp2_with (fail)
    go_ret
    exact ⟨rfl, HQ.out⟩
  · have g1 : decide (n < 0) = false := by simp; omega
    have g2 : decide ((200 : Int) < n) = true := by simp; omega
    clear hn g
    go_enter Try.func7, Try.ntmps7
    go_wp2_with (fail)
    refine HK.out.mono ?_
    rintro e w1 ⟨rfl, q⟩
    have HQ := Lib.hid q
    clear q
    go_wp2_with (fail)
    go_ret
    exact ⟨rfl, HQ.out⟩
theorem shuffles_any (z n : Int) (w : World) : Calls Try.prog 7 #[.int .i64 z, .int .i64 n] w fun e w' => e = .returned (.bool true) ∧ Below w.heap.size w w' := by
  by_cases h : n < 0 ∨ 200 < n
  · exact shuffles_no z n w h
  · obtain ⟨m, rfl⟩ : ∃ m : Nat, n = (m : Int) := ⟨n.toNat, by omega⟩
    exact shuffles_ok z m w (by omega)
end Go.Proofs.Ytmidoicbbgdchaa
