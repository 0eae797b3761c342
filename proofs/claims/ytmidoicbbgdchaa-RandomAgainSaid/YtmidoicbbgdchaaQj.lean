/- The statement RandomAgain: the walk. -/
import Derived.Test.YtmidoicbbgdchaaQi
namespace Go.Proofs.Ytmidoicbbgdchaa
open Go.RowKit

def nV (n s : Int) : Int := if 1 ≤ n ∧ n ≤ 4611686018427387904 then numV n s else 0
def nE (n : Int) : Int := if 1 ≤ n ∧ n ≤ 4611686018427387904 then 0 else 2
def nS (n s : Int) : Int := if 1 ≤ n ∧ n ≤ 4611686018427387904 then numS n s else s
theorem number_all {w : World} {p : Nat} {s : Int} (n : Int) (h : Src w p s) :
    Calls Try.prog 11 #[.pointer (some ⟨p, 0, none⟩), .int .i64 n] w fun e w' => e = .returned (.tuple #[.int .i64 (nV n s), .int .i64 (nE n)]) ∧ Src w' p (nS n s) ∧ But p w w' := by
  by_cases g : 1 ≤ n ∧ n ≤ 4611686018427387904
  · unfold nV nE nS
    rw [if_pos g, if_pos g, if_pos g]
    exact number_ok n h g.1 g.2
  · unfold nV nE nS
    rw [if_neg g, if_neg g, if_neg g]
    refine (number_no n h (by omega)).mono ?_
    rintro e w' ⟨rfl, rfl⟩
    exact ⟨rfl, h, But.refl _ _⟩
theorem OwnB.far {w : World} {B g n c _p : Nat} {ds : List Bool} (h : OwnB w B (.slice (some ⟨g, 0, none⟩) n c) ds) {w' : World} (hb : w'.heap[g]? = w.heap[g]?) : OwnB w' B (.slice (some ⟨g, 0, none⟩) n c) ds := by
  refine ⟨h.1, ?_⟩
  rcases h.2 with h2 | ⟨g', cap, cur, e, hB, hg, r⟩
  · exact .inl h2
  · have e1 : g = g' := by injection e with e1; simpa using e1
    exact .inr ⟨g', cap, cur, e, hB, by rw [← hg, ← e1]; exact hb, r⟩
set_option maxRecDepth 100000 in
set_option maxHeartbeats 8000000 in
theorem again_ok (z lab lim : Int) (n : Nat) (w : World) (hn : n ≤ 200) :
    Calls Try.prog 5 #[.int .i64 z, .int .i64 lab, .int .i64 lim, .int .i64 n] w fun e w' => e = .returned (.bool true) ∧ Below w.heap.size w w' := by
  have g1 : decide ((n : Int) < 0) = false := by simp
  have g2 : decide ((200 : Int) < (n : Int)) = false := by simp; omega
  obtain ⟨s0, hs0⟩ : ∃ s0, IntKind.u64.wrap z = s0 := ⟨_, rfl⟩
  have HS0 := Lib.hid hs0
  have HAT := Lib.hid (fun k (hk : k < n) => shufL_at s0 hn hk)
  have HLN := Lib.hid (shufL_len s0 hn)
  clear hs0
  go_enter Try.func5, Try.ntmps5
  go_wp2_with (fail)
  refine (new_to HS0.out w).mono ?_
  rintro e w1 ⟨rfl, s1, b1, z1⟩
  go_wp2_with (fail)
  refine (new_to HS0.out w1).mono ?_
  rintro e w2 ⟨rfl, t1, b2, z2⟩
  have S1 := Lib.hid (s1.below b2)
  have T1 := Lib.hid t1
  have B2 := Lib.hid (b1.trans (b2.mono (by omega)))
  generalize hp1 : w.heap.size = p1 at *
  have HP := Lib.hid hp1
  have L2 := Lib.hid (show p1 < w1.heap.size ∧ w1.heap.size < w2.heap.size from ⟨by omega, by omega⟩)
  generalize hp2 : w1.heap.size = p2 at *
  clear s1 t1 b1 b2 hp1 hp2 z1 z2
  go_wp2_with (fail)
  refine (shuffle_any n S1.out (by omega)).mono ?_
  rintro e w3 ⟨rfl, o3, s3, b3⟩
  have T3 := Lib.hid (T1.out.but b3 (by have := L2.out; omega))
  have S3 := Lib.hid s3
  have O3 := Lib.hid o3
  have B3 := Lib.hid (B2.out.trans (b3.below (Nat.le_refl _) (by have := L2.out; omega)))
  have L3 := Lib.hid (show p1 < p2 ∧ p2 < w2.heap.size ∧ w2.heap.size < w3.heap.size from ⟨L2.out.1, L2.out.2, o3.lt⟩)
  generalize w2.heap.size = g at *
  clear L2 S1 T1 B2 o3 s3 b3
  go_wp2_with (fail)
  refine (shuffle_any n T3.out (by omega)).mono ?_
  rintro e w4 ⟨rfl, o4, t4, b4⟩
  have S4 := Lib.hid (S3.out.but b4 (by have := L3.out; omega))
  have T4 := Lib.hid t4
  have O4 := Lib.hid (O3.out.but b4 (by have := L3.out; omega))
  have HEQ := Lib.hid (equal_any O4.out o4 (by rw [HLN.out]; omega))
  have B4 := Lib.hid (B3.out.trans (b4.below (by have := L3.out; omega) (by have := L3.out; omega)))
  have L4 := Lib.hid (show p1 < p2 ∧ p2 < g ∧ g < w4.heap.size from ⟨L3.out.1, L3.out.2.1, O4.out.lt⟩)
  generalize w3.heap.size = g' at *
  generalize shufS n s0 = sa at *
  generalize shufL n s0 = L at *
  clear L3 S3 T3 B3 O3 o4 t4 b4
  go_wp2_with (fail)
  refine HEQ.out.mono ?_
  rintro e w4' ⟨rfl, q4, rfl⟩
  have S4' := Lib.hid (show Src (w4.drewN q4) p1 sa from S4.out)
  have T4' := Lib.hid (show Src (w4.drewN q4) p2 sa from T4.out)
  have O4' := Lib.hid (show OwnI (w4.drewN q4) g _ L from O4.out)
  have B4' := Lib.hid (below_drewN B4.out q4)
  have L4' := Lib.hid (show p1 < p2 ∧ p2 < g ∧ g < (w4.drewN q4).heap.size from L4.out)
  generalize w4.drewN q4 = W5 at *
  clear S4 T4 O4 B4 L4 HEQ
  go_wp2_with (refine makeB rfl _ _ _ rfl Try.underlying42 n _ _ rfl rfl ?c1 ?c2 ?c3 (Below.refl _ _) (Nat.le_refl _) ?_)
  case c1 => rfl
  case c2 => rfl
  case c3 => omega
  intro w6 o6 q6 q6' q6''
  rw [← sb_nil] at o6
  have S6 := Lib.hid (S4'.out.below q6'')
  have T6 := Lib.hid (T4'.out.below q6'')
  have OI6 := Lib.hid (O4'.out.below q6'' (Nat.le_refl _))
  have B6 := Lib.hid (B4'.out.trans (q6''.mono (by have := L4'.out; omega)))
  have L6 := Lib.hid (show p1 < p2 ∧ p2 < g ∧ g < W5.heap.size from L4'.out)
  generalize W5.heap.size = h at *
  have OB6 := Lib.hid o6
  clear S4' T4' O4' B4' L4' o6 q6 q6' q6''
  go_wp2_with (fail)
  go_loopw [16] (fun i wr => ∃ k : Nat, k ≤ n ∧ i = .int .i64 k ∧ Hid (OwnB wr h (.slice (some ⟨h, 0, none⟩) n n) (sb n (L.take k))) ∧ Hid (OwnI wr g (.slice (some ⟨g, 0, none⟩) n n) L) ∧ Hid (Src wr p1 sa) ∧ Hid (Src wr p2 sa) ∧ Hid (Below p1 w wr)) (fun i _ => n - (intOf i).toNat)
  case atStart => exact ⟨0, by omega, rfl, by rw [List.take_zero]; exact OB6, OI6, S6, T6, B6⟩
  case round =>
    obtain ⟨k, hk, rfl, ob, oi, hs, ht, hb⟩ := hrel
    clear OB6 OI6 S6 T6 B6
    by_cases gk : k < n
    · have gI : (k : Int) < (n : Int) := by omega
      obtain ⟨v, hv, hvn, hnot, htk⟩ := HAT.out k gk
      have c1 := oi.out.cellAt (j := k) (by rw [HLN.out]; exact gk)
      rw [hv] at c1
      have c2 := ob.out.cellAt (j := v) (by rw [sb_len]; exact hvn)
      rw [sb_at hvn hnot] at c2
      have f2 := ob.out.freeAt v
      have ob2 := ob.out.set_ (j := v) true
      rw [sb_set, ← htk] at ob2
      have gh : g ≠ h := by have := L6.out; omega
      have OB2 := Lib.hid ob2
      have OI2 := Lib.hid (oi.out.same (Below.heap_setCell wr ⟨h, v, none⟩ (.bool true) g (by exact gh)))
      have HS2 := Lib.hid (hs.out.far (g := h) (k := v) (by have := L6.out; omega) (.bool true))
      have HT2 := Lib.hid (ht.out.far (g := h) (k := v) (by have := L6.out; omega) (.bool true))
      have HB2 := Lib.hid (hb.out.setCell (p := ⟨h, v, none⟩) (by show p1 ≤ h; have := L6.out; omega) (.bool true))
      have kV : (v : Int) < (n : Int) := by omega
      have gv0 : decide ((v : Int) < 0) = false := by simp
      have gv1 : decide (n ≤ v) = false := by simp; omega
      clear ob oi hs ht hb ob2 hv hnot htk
      go_wp2
      go_roundw
      case rel => exact ⟨k + 1, by omega, by go_num, OB2, OI2, HS2, HT2, HB2⟩
      case measure => simp [intOf]; omega
    · obtain rfl : k = n := by omega
      have L7 := Lib.hid (show p1 < p2 ∧ p2 < wr.heap.size from ⟨L6.out.1, ht.out.lt⟩)
      clear ob oi L6
      go_wp2_with (fail)
      have HNUM := Lib.hid (fun (w : World) (p : Nat) (h : Src w p sa) => number_all lim h)
      generalize nS lim sa = sn at HNUM
      generalize nV lim sa = nv at HNUM
      generalize nE lim = ne at HNUM
      refine (HNUM.out _ _ hs.out).mono ?_
      rintro e w7 ⟨rfl, s7, b7⟩
      have T7 := Lib.hid (ht.out.but b7 (by have := L7.out; omega))
      have S7 := Lib.hid s7
      have B7 := Lib.hid (hb.out.trans (b7.below (Nat.le_refl _) (by have := L7.out; omega)))
      have L8 := Lib.hid (show p1 < p2 ∧ p2 < w7.heap.size from ⟨L7.out.1, T7.out.lt⟩)
      clear s7 b7 hs ht hb L7
      go_wp2_with (fail)
      refine (HNUM.out _ _ T7.out).mono ?_
      rintro e w8 ⟨rfl, t8, b8⟩
      have S8 := Lib.hid (S7.out.but b8 (by have := L8.out; omega))
      have T8 := Lib.hid t8
      have B8 := Lib.hid (B7.out.trans (b8.below (by have := L8.out; omega) (by have := L8.out; omega)))
      have L9 := Lib.hid (show p1 < p2 ∧ p2 < w8.heap.size from ⟨L8.out.1, t8.lt⟩)
      clear t8 b8 S7 T7 B7 L8 HNUM
      obtain ⟨tf, htf⟩ : ∃ tf, bits .xor .u64 (wd (nx sn)) (IntKind.u64.wrap lab) = tf := ⟨_, rfl⟩
      have HTF := Lib.hid htf
      clear htf
      go_wp2_with (fail)
      refine (fork_to (n := lab) S8.out HTF.out).mono ?_
      rintro e w9 ⟨rfl, c9, s9, b9⟩
      have C9 := Lib.hid c9
      have S9 := Lib.hid s9
      have T9 := Lib.hid (T8.out.but b9 (by have := L9.out; omega))
      have B9 := Lib.hid (B8.out.trans (b9.below (Nat.le_refl _) (by have := L9.out; omega)))
      have L10 := Lib.hid (show p1 < p2 ∧ p2 < w8.heap.size ∧ w8.heap.size < w9.heap.size from ⟨L9.out.1, L9.out.2, c9.lt⟩)
      generalize w8.heap.size = q1 at *
      clear c9 s9 b9 S8 T8 B8 L9
      go_wp2_with (fail)
      refine (fork_to (n := lab) T9.out HTF.out).mono ?_
      rintro e w10 ⟨rfl, d10, t10, b10⟩
      have D10 := Lib.hid d10
      have T10 := Lib.hid t10
      have C10 := Lib.hid (C9.out.but b10 (by have := L10.out; omega))
      have S10 := Lib.hid (S9.out.but b10 (by have := L10.out; omega))
      have B10 := Lib.hid (B9.out.trans (b10.below (by have := L10.out; omega) (by have := L10.out; omega)))
      have L11 := Lib.hid (show p1 < p2 ∧ p2 < q1 ∧ q1 < w9.heap.size ∧ w9.heap.size < w10.heap.size from ⟨L10.out.1, L10.out.2.1, L10.out.2.2, d10.lt⟩)
      generalize w9.heap.size = q2 at *
      clear d10 t10 b10 C9 S9 T9 B9 L10 HTF
      go_wp2_with (fail)
      refine (word_to C10.out rfl).mono ?_
      rintro e w11 ⟨rfl, -, b11, z11⟩
      have D11 := Lib.hid (D10.out.but b11 (by have := L11.out; omega))
      have S11 := Lib.hid (S10.out.but b11 (by have := L11.out; omega))
      have T11 := Lib.hid (T10.out.but b11 (by have := L11.out; omega))
      have B11 := Lib.hid (B10.out.trans (b11.below (by have := L11.out; omega) (by have := L11.out; omega)))
      have L12 := Lib.hid (show p1 < p2 ∧ p2 < q1 ∧ q1 < q2 ∧ q2 < w11.heap.size from ⟨L11.out.1, L11.out.2.1, L11.out.2.2.1, D11.out.lt⟩)
      clear b11 z11 C10 D10 S10 T10 B10 L11
      go_wp2_with (fail)
      refine (word_to D11.out rfl).mono ?_
      rintro e w12 ⟨rfl, -, b12, z12⟩
      have S12 := Lib.hid (S11.out.but b12 (by have := L12.out; omega))
      have T12 := Lib.hid (T11.out.but b12 (by have := L12.out; omega))
      have B12 := Lib.hid (B11.out.trans (b12.below (by have := L12.out; omega) (by have := L12.out; omega)))
      have L13 := Lib.hid (show p1 < p2 ∧ p2 < w12.heap.size from ⟨L12.out.1, T12.out.lt⟩)
      clear b12 z12 D11 S11 T11 B11 L12
      go_wp2_with (fail)
      refine (word_to S12.out rfl).mono ?_
      rintro e w13 ⟨rfl, -, b13, z13⟩
      have T13 := Lib.hid (T12.out.but b13 (by have := L13.out; omega))
      have B13 := Lib.hid (B12.out.trans (b13.below (Nat.le_refl _) (by have := L13.out; omega)))
      have L14 := Lib.hid (show p1 < p2 ∧ p2 < w13.heap.size from ⟨L13.out.1, T13.out.lt⟩)
      clear b13 z13 S12 T12 B12 L13
      go_wp2_with (fail)
      refine (word_to T13.out rfl).mono ?_
      rintro e w14 ⟨rfl, t14, b14, z14⟩
      have B14 := Lib.hid (B13.out.trans (b14.below (by have := L14.out; omega) (by have := L14.out; omega)))
      have L15 := Lib.hid (show p1 ≤ w14.heap.size by have := L14.out; have := t14.lt; omega)
      clear t14 b14 z14 T13 B13 L14
      go_wp2_with (fail)
      refine (known_any _).mono ?_
      rintro e w15 ⟨rfl, q15⟩
      have B15 := Lib.hid (B14.out.trans (q15.mono L15.out))
      clear q15 B14
      go_wp2_with (fail)
      go_ret
      exact ⟨rfl, by rw [HP.out]; exact B15.out⟩
set_option maxRecDepth 100000 in
theorem again_no (z lab lim n : Int) (w : World) (hn : n < 0 ∨ 200 < n) :
    Calls Try.prog 5 #[.int .i64 z, .int .i64 lab, .int .i64 lim, .int .i64 n] w fun e w' => e = .returned (.bool true) ∧ Below w.heap.size w w' := by
  have HK := Lib.hid (known_any w)
  by_cases g : n < 0
  · have g1 : decide (n < 0) = true := by simp; omega
    clear hn g
    go_enter Try.func5, Try.ntmps5
    go_wp2_with (fail)
    refine HK.out.mono ?_
    rintro e w1 ⟨rfl, q⟩
    have HQ := Lib.hid q
    clear q
    go_wp2_with (fail)
    go_ret
    exact ⟨rfl, HQ.out⟩
  · have g1 : decide (n < 0) = false := by simp; omega
    have g2 : decide ((200 : Int) < n) = true := by simp; omega
    clear hn g
    go_enter Try.func5, Try.ntmps5
    go_wp2_with (fail)
    refine HK.out.mono ?_
    rintro e w1 ⟨rfl, q⟩
    have HQ := Lib.hid q
    clear q
    go_wp2_with (fail)
    go_ret
    exact ⟨rfl, HQ.out⟩
theorem again_any (z lab lim n : Int) (w : World) : Calls Try.prog 5 #[.int .i64 z, .int .i64 lab, .int .i64 lim, .int .i64 n] w fun e w' => e = .returned (.bool true) ∧ Below w.heap.size w w' := by
  by_cases h : n < 0 ∨ 200 < n
  · exact again_no z lab lim n w h
  · obtain ⟨m, rfl⟩ : ∃ m : Nat, n = (m : Int) := ⟨n.toNat, by omega⟩
    exact again_ok z lab lim m w (by omega)
end Go.Proofs.Ytmidoicbbgdchaa
