/- The reference: Compress, up to its rounds. -/
import Derived.Test.YtdjfklllfbenjaaDoorBr0
import Derived.Test.YtdjfklllfbenjaaDoorBr1
import Derived.Test.YtdjfklllfbenjaaDoorBr2
import Derived.StillTailTactics
namespace Go.Proofs.YtdjfklllfbenjaaDoor
open Go.RowKit

def wordsK (ds : List Int) (k : Nat) : List Int := (List.range k).map (wdAt ds)
theorem wordsK_len (ds : List Int) (k : Nat) : (wordsK ds k).length = k := by simp [wordsK]
theorem wordsK_succ (ds : List Int) (k : Nat) : wordsK ds k ++ [wdAt ds k] = wordsK ds (k + 1) := by simp [wordsK, List.range_succ]
theorem wordsK_all (ds : List Int) : wordsK ds 16 = wordsL ds := rfl
def markOf (last : Bool) : Int := if last then 4294967295 else 0
theorem lanes_ok (i : Nat) (hi : i < 8) : la i < 16 ∧ lb i < 16 ∧ lc i < 16 ∧ ld i < 16 ∧ la i ≠ lb i ∧ la i ≠ lc i ∧ la i ≠ ld i ∧ lb i ≠ lc i ∧ lb i ≠ ld i ∧ lc i ≠ ld i := by
  have h : ∀ i : Fin 8, la i.val < 16 ∧ lb i.val < 16 ∧ lc i.val < 16 ∧ ld i.val < 16 ∧ la i.val ≠ lb i.val ∧ la i.val ≠ lc i.val ∧ la i.val ≠ ld i.val ∧ lb i.val ≠ lc i.val ∧ lb i.val ≠ ld i.val ∧ lc i.val ≠ ld i.val := by decide
  exact h ⟨i, hi⟩
theorem sets4_far {w : World} {p g n a b c d j : Nat} {A B C D v : Value} (hg : g ≠ p) (h : w.cell? ⟨g, j, none⟩ = some v) : (((((w.drewN n).setCell ⟨p, a, none⟩ A).setCell ⟨p, b, none⟩ B).setCell ⟨p, c, none⟩ C).setCell ⟨p, d, none⟩ D).cell? ⟨g, j, none⟩ = some v := by
  have key : ∀ (W : World) (i : Nat) (u : Value), (W.setCell ⟨p, i, none⟩ u).cell? ⟨g, j, none⟩ = W.cell? ⟨g, j, none⟩ := fun W i u => World.cell?_setCell_other W _ _ u (fun e => hg (by have := congrArg Addr.block e; first | exact this | exact this.symm))
  rw [key, key, key, key]
  exact h
theorem xo_zero6 : xo (at_ iv 6) 0 = at_ iv 6 := by decide +kernel
theorem OwnW.less {w : World} {B B' : Nat} {v : Value} {ds : List Int} (h : OwnW w B v ds) (hB : B' ≤ B) : OwnW w B' v ds := by
  refine ⟨h.1, ?_⟩
  rcases h.2 with h2 | ⟨g, cap, cur, e, hb, r⟩
  · exact .inl h2
  · exact .inr ⟨g, cap, cur, e, Nat.le_trans hB hb, r⟩
def outN (h v : List Int) (k : Nat) : List Int := (List.range k).map fun i => xo (at_ h i) (xo (at_ v i) (at_ v (8 + i)))
theorem outN_len (h v : List Int) (k : Nat) : (outN h v k).length = k := by simp [outN]
theorem outN_succ (h v : List Int) (k : Nat) : outN h v k ++ [xo (at_ h k) (xo (at_ v k) (at_ v (8 + k)))] = outN h v (k + 1) := by simp [outN, List.range_succ]
set_option maxRecDepth 100000 in
set_option maxHeartbeats 4000000 in
theorem rcomp_any (gh oh ch b o cb : Nat) (hs ds : List Int) (t : Int) (last : Bool) (w : World) (h8 : hs.length = 8) (hgh : gh < w.heap.size) (hch : ∀ k, k < 8 → w.cell? ⟨gh, oh + k, none⟩ = some (.int .u32 (at_ hs k)))
    (hb : b < w.heap.size) (hc : ∀ k, k < 64 → w.cell? ⟨b, o + k, none⟩ = some (.int .u8 (at_ ds k))) :
    Calls Tryd.prog 39 #[.slice (some ⟨gh, oh, none⟩) 8 ch, .slice (some ⟨b, o, none⟩) 64 cb, .int .i64 t, .bool last] w fun e w' => (∃ v', e = .returned v' ∧ OwnW w' w.heap.size v' (comprL hs (wordsL ds) t (markOf last))) ∧ Below w.heap.size w w' := by
  have H8 := Lib.hid h8
  have HGH := Lib.hid hgh
  have HCH := Lib.hid hch
  have HB := Lib.hid hb
  have HC := Lib.hid hc
  have HO := Lib.hid (OwnW.nil_ w w.heap.size)
  clear h8 hgh hch hb hc
  go_enter Tryd.func39, Tryd.ntmps39
  go_wp2_with (fail)
  generalize hp : w.heap.size = p at *
  have HPP := Lib.hid hp
  clear hp
  have HB0 : Hid (Below p w w) := Lib.hid (by rw [← HPP.out]; exact Below.refl _ _)
  go_loopw [9, 10] (fun m i wr => ∃ k : Nat, k ≤ 16 ∧ i = .int .i64 k ∧ Hid (OwnW wr p m (wordsK ds k)) ∧ Hid (Below p w wr) ∧ Hid (∃ A n c, m = .slice A n c)) (fun _ i _ => 16 - (intOf i).toNat)
  case atStart => exact ⟨0, Nat.zero_le _, rfl, HO, HB0, Lib.hid ⟨_, _, _, rfl⟩⟩
  case round =>
    obtain ⟨k, hk, rfl, ho, hbl, hm⟩ := hrel
    clear HO HB0
    by_cases g1 : k < 16
    · have gI : (k : Int) < 16 := by omega
      obtain ⟨k0, hk0⟩ : ∃ z, 4 * k = z := ⟨_, rfl⟩
      have e0 : (4 : Int) * k = (k0 : Int) := by omega
      have HWD : Hid (wdAt ds k = wd4 (at_ ds k0) (at_ ds (k0 + 1)) (at_ ds (k0 + 2)) (at_ ds (k0 + 3))) := Lib.hid (by rw [← hk0]; rfl)
      have c0 : wr.cell? ⟨b, o + k0, none⟩ = some (.int .u8 (at_ ds k0)) := kept_cell hbl.out (HC.out k0 (by omega)) HB.out
      have c1 : wr.cell? ⟨b, o + (k0 + 1), none⟩ = some (.int .u8 (at_ ds (k0 + 1))) := kept_cell hbl.out (HC.out (k0 + 1) (by omega)) HB.out
      have c2 : wr.cell? ⟨b, o + (k0 + 2), none⟩ = some (.int .u8 (at_ ds (k0 + 2))) := kept_cell hbl.out (HC.out (k0 + 2) (by omega)) HB.out
      have c3 : wr.cell? ⟨b, o + (k0 + 3), none⟩ = some (.int .u8 (at_ ds (k0 + 3))) := kept_cell hbl.out (HC.out (k0 + 3) (by omega)) HB.out
      have i0 : (k0 : Int) < 64 := by omega
      have i1 : (k0 : Int) + 1 < 64 := by omega
      have i2 : (k0 : Int) + 2 < 64 := by omega
      have i3 : (k0 : Int) + 3 < 64 := by omega
      have j0 : (0 : Int) ≤ k0 := by omega
      have j1 : (0 : Int) ≤ (k0 : Int) + 1 := by omega
      have j2 : (0 : Int) ≤ (k0 : Int) + 2 := by omega
      have j3 : (0 : Int) ≤ (k0 : Int) + 3 := by omega
      have t1 : ((k0 : Int) + 1).toNat = k0 + 1 := by omega
      have t2 : ((k0 : Int) + 2).toNat = k0 + 2 := by omega
      have t3 : ((k0 : Int) + 3).toNat = k0 + 3 := by omega
      have HK0 : Hid (k0 < 64) := Lib.hid (by omega)
      have HK1 : Hid (k0 + 3 < 64) := Lib.hid (by omega)
      replace hk0 := Lib.hid hk0
      have hsz : p ≤ wr.heap.size := by have := hbl.out.size; rw [HPP.out] at this; exact this
      have v0 : IntKind.i64.wrap (k0 : Int) = k0 := by rw [IntKind.wrap_i64]; omega
      have v1 : IntKind.i64.wrap ((k0 : Int) + 1) = k0 + 1 := by rw [IntKind.wrap_i64]; omega
      have v2 : IntKind.i64.wrap ((k0 : Int) + 2) = k0 + 2 := by rw [IntKind.wrap_i64]; omega
      have v3 : IntKind.i64.wrap ((k0 : Int) + 3) = k0 + 3 := by rw [IntKind.wrap_i64]; omega
      obtain ⟨A, n, c, rfl⟩ := hm.out
      go_wp2_with (fail)
      have HCC : ∀ w', Below w.heap.size w w' → (w'.cell? ⟨b, o + k0, none⟩ = some (.int .u8 (at_ ds k0)) ∧ w'.cell? ⟨b, o + (k0 + 1), none⟩ = some (.int .u8 (at_ ds (k0 + 1))) ∧ w'.cell? ⟨b, o + (k0 + 2), none⟩ = some (.int .u8 (at_ ds (k0 + 2))) ∧ w'.cell? ⟨b, o + (k0 + 3), none⟩ = some (.int .u8 (at_ ds (k0 + 3)))) := fun w' h => by
        rw [HPP.out] at h
        exact ⟨kept_cell h (HC.out k0 HK0.out) HB.out, kept_cell h (HC.out (k0 + 1) (by have := HK1.out; omega)) HB.out, kept_cell h (HC.out (k0 + 2) (by have := HK1.out; omega)) HB.out, kept_cell h (HC.out (k0 + 3) (by have := HK1.out; omega)) HB.out⟩
      have HCC := Lib.hid HCC
      have hbl' : Below w.heap.size w wr := by rw [HPP.out]; exact hbl.out
      go_region_held3 (fun w' => w'.cell? ⟨b, o + k0, none⟩ = some (.int .u8 (at_ ds k0)) ∧ w'.cell? ⟨b, o + (k0 + 1), none⟩ = some (.int .u8 (at_ ds (k0 + 1))) ∧ w'.cell? ⟨b, o + (k0 + 2), none⟩ = some (.int .u8 (at_ ds (k0 + 2))) ∧ w'.cell? ⟨b, o + (k0 + 3), none⟩ = some (.int .u8 (at_ ds (k0 + 3)))) (first | exact HCC.out _ hbl'.drew | exact HCC.out _ ((hbl'.alloc (by rw [HPP.out]; exact hsz) _).drew) | exact HCC.out _ (by rw [HPP.out]; exact h2))
        (first | (refine stepW1 rfl _ _ _ rfl Tryd.underlying62 rfl (by first | exact (ho.out.keep (fun g hg => Below.heap_alloc wr _ g hg)).drewN 1 | exact (ho.out.keep (fun g hg => Below.heap_alloc wr _ g hg))) (W := w) (by first | exact (hbl.out.alloc hsz _).drew) (by simp; omega) wr.heap.size (wdAt ds k) rfl (by rw [HWD.out]; show (wr.alloc _).cell? _ = _; rw [World.cell?_alloc_at _ _ _ _ rfl]; rfl) k (wordsK_len ds k).symm (by omega) ?_; intro g' c' w' h1 h2))
      have HO1 := Lib.hid h1
      have HB1 := Lib.hid h2
      rw [wordsK_succ] at HO1
      clear h1 h2 ho hbl hbl' hm c0 c1 c2 c3 i0 i1 i2 i3 j0 j1 j2 j3 t1 t2 t3 e0 v0 v1 v2 v3 HC HCC
      go_wp2_with (fail)
      go_roundw
      case rel => exact ⟨k + 1, by omega, by go_num, HO1, HB1, Lib.hid ⟨_, _, _, rfl⟩⟩
      case measure => simp [intOf]; omega
    · obtain rfl : k = 16 := by omega
      rw [wordsK_all] at ho
      rw [show ((16 : Nat) : Int) = (16 : Int) from rfl]
      have hsz : p ≤ wr.heap.size := by have := hbl.out.size; rw [HPP.out] at this; exact this
      obtain ⟨gm, cm, rfl, hm1, hm2, hm3, hmc, hmf⟩ := ho.out.form (by rw [wordsL_len]; omega)
      rw [wordsL_len] at *
      have HMC := Lib.hid hmc
      obtain ⟨q, hq⟩ : ∃ q, wr.heap.size = q := ⟨_, rfl⟩
      have HQ := Lib.hid hq
      have HHS : Hid (∀ j, j < hs.length → wr.cell? ⟨gh, oh + j, none⟩ = some (.int .u32 (at_ hs j))) := Lib.hid fun j hj => kept_cell hbl.out (HCH.out j (by rw [H8.out] at hj; exact hj)) HGH.out
      have HLE : Hid (p ≤ q) := Lib.hid (hq ▸ hsz)
      have HGM : Hid (gm < q) := Lib.hid (hq ▸ hm2)
      clear hm hmc hmf hm1 hm2 hm3 HC HCH hsz hq
      go_wp2_with (at_builtin; refine appWs rfl _ _ _ rfl Tryd.underlying62 rfl (OwnW.nil_ wr q) (W := wr) (by rw [← HQ.out]; exact Below.refl _ _) (by rw [HQ.out]; exact Nat.le_refl _) gh oh 8 ch hs rfl H8.out HHS.out (by simp) ?_; intro v1 w1 h1 h2)
      refine (words_any w1).mono ?_
      rintro e w2 ⟨rfl, rfl⟩
      have hs1 : q ≤ w1.heap.size := by have := h2.size; rw [HQ.out] at this; exact this
      have HO2 : Hid (OwnW (w1.alloc (.cells (u32s iv) 64)) q v1 ([] ++ hs)) := Lib.hid (h1.keep fun g hg => Below.heap_alloc w1 _ g hg)
      have HB2 := Lib.hid (h2.alloc hs1 (.cells (u32s iv) 64))
      have HIV : Hid (∀ j, j < iv.length → (w1.alloc (.cells (u32s iv) 64)).cell? ⟨w1.heap.size, 0 + j, none⟩ = some (.int .u32 (at_ iv j))) := Lib.hid fun j hj => by rw [Nat.zero_add]; exact (U32.new w1 64 iv).cell j hj
      clear h1 h2
      go_upto_region 10 with (at_builtin; refine appWs rfl _ _ _ rfl Tryd.underlying62 rfl HO2.out HB2.out (by simp; omega) w1.heap.size 0 8 8 iv rfl rfl HIV.out (by simp [H8.out]) ?_; intro v2 w3 h3 h4; obtain ⟨pv, cv, rfl, hv1, hv2, hv3, hv4, hv5⟩ := h3.form (by simp [iv]); have hlen : ([] ++ hs ++ iv).length = 16 := (by simp [H8.out, iv]); rw [hlen] at h3 hv3 hv4 ⊢; have c12 : w3.cell? ⟨pv, 12, none⟩ = some (.int .u32 (at_ iv 4)) := (by rw [hv4 12 (by omega)]; unfold at_; rw [List.nil_append, List.getElem?_append_right (by rw [H8.out]; omega), H8.out]); have c13 : w3.cell? ⟨pv, 13, none⟩ = some (.int .u32 (at_ iv 5)) := (by rw [hv4 13 (by omega)]; unfold at_; rw [List.nil_append, List.getElem?_append_right (by rw [H8.out]; omega), H8.out]); have f12 := hv5 12; have f13 := hv5 13; clear hv4 hv5; generalize h12 : at_ iv 4 = i12 at *; generalize h13 : at_ iv 5 = i13 at *)
      have HV4 : Hid (OwnW ((w3.setCell ⟨pv, 12, none⟩ (.int .u32 (bits .xor .u32 i12 (t % 4294967296)))).setCell ⟨pv, 13, none⟩ (.int .u32 (bits .xor .u32 i13 (t / 4294967296 % 4294967296)))) q (.slice (some ⟨pv, 0, none⟩) 16 cv) (((hs ++ iv).set 12 (xo (at_ iv 4) (t % 4294967296))).set 13 (xo (at_ iv 5) (t / 4294967296 % 4294967296)))) := Lib.hid (by
        rw [h12, h13]
        exact (OwnW.set_ (OwnW.set_ h3 _) _))
      have HB4 : Hid (Below q wr ((w3.setCell ⟨pv, 12, none⟩ (.int .u32 (bits .xor .u32 i12 (t % 4294967296)))).setCell ⟨pv, 13, none⟩ (.int .u32 (bits .xor .u32 i13 (t / 4294967296 % 4294967296))))) := Lib.hid ((h4.setCell hv1 _).setCell hv1 _)
      have HL4 : Hid (pv < ((w3.setCell ⟨pv, 12, none⟩ (.int .u32 (bits .xor .u32 i12 (t % 4294967296)))).setCell ⟨pv, 13, none⟩ (.int .u32 (bits .xor .u32 i13 (t / 4294967296 % 4294967296)))).heap.size) := Lib.hid (by simpa using hv2)
      generalize ((w3.setCell ⟨pv, 12, none⟩ (.int .u32 (bits .xor .u32 i12 (t % 4294967296)))).setCell ⟨pv, 13, none⟩ (.int .u32 (bits .xor .u32 i13 (t / 4294967296 % 4294967296)))) = W4 at *
      have HPV : Hid (q ≤ pv) := Lib.hid hv1
      clear h3 h4 hv1 hv2 hv3 hlen c12 c13 f12 f13 h12 h13 HO2 HB2 HIV hs1
      obtain ⟨v0, HV0⟩ : ∃ v0, startL hs t (markOf last) = v0 := ⟨_, rfl⟩
      have LV0 : Hid (v0.length = 16) := Lib.hid (HV0 ▸ startL_len t _ H8.out)
      have HST : Hid ((((hs ++ iv).set 12 (xo (at_ iv 4) (t % 4294967296))).set 13 (xo (at_ iv 5) (t / 4294967296 % 4294967296))).set 14 (xo (at_ iv 6) (markOf last)) = v0) := Lib.hid HV0
      replace HV0 := Lib.hid HV0
      generalize hvv : ((hs ++ iv).set 12 (xo (at_ iv 4) (t % 4294967296))).set 13 (xo (at_ iv 5) (t / 4294967296 % 4294967296)) = vv at *
      have LVV : Hid (vv.length = 16) := Lib.hid (by rw [← hvv, List.length_set, List.length_set, List.length_append, H8.out]; rfl)
      have A14 : Hid (at_ vv 14 = at_ iv 6) := Lib.hid (by
        rw [← hvv]
        unfold at_
        rw [List.getElem?_set_ne (by omega), List.getElem?_set_ne (by omega), List.getElem?_append_right (by rw [H8.out]; omega), H8.out])
      clear hvv
      go_upto_if 79 with (fail)
      go_cut [] from 80 to 85 (fun wx => Hid (OwnW wx q (.slice (some ⟨pv, 0, none⟩) 16 cv) v0) ∧ Hid (Below q wr wx))
      case first =>
        obtain ⟨gv, cv2, e, -, -, -, hc4, hf4⟩ := HV4.out.form (by rw [LVV.out]; omega)
        obtain ⟨rfl, rfl⟩ : pv = gv ∧ cv = cv2 := by simpa [LVV.out] using e
        have c14 : W4.cell? ⟨pv, 14, none⟩ = some (.int .u32 (at_ iv 6)) := by rw [hc4 14 (by rw [LVV.out]; omega), A14.out]
        have f14 := hf4 14
        clear hc4 hf4 e
        cases last
        · have e : vv = v0 := by
            rw [← HST.out, show markOf false = 0 from rfl, xo_zero6, ← A14.out]
            apply List.ext_getElem?
            intro j
            rw [List.getElem?_set]
            split
            · subst j; unfold at_; rw [List.getElem?_eq_getElem (by rw [LVV.out]; omega)]; simp [LVV.out]
            · rfl
          rw [e] at HV4
          clear c14 f14
          go_wp2_with (fail)
          go_meet
          exact ⟨HV4, HB4⟩
        · have HV5 := Lib.hid (HV4.out.set_ (j := 14) (xo (at_ iv 6) 4294967295))
          have e : vv.set 14 (xo (at_ iv 6) 4294967295) = v0 := HST.out
          rw [e] at HV5
          have HB5 := Lib.hid (HB4.out.setCell (p := ⟨pv, 14, none⟩) HPV.out (.int .u32 (xo (at_ iv 6) 4294967295)))
          clear e HV4 HB4 A14
          unfold xo at HV5 HB5
          generalize at_ iv 6 = i14 at *
          go_wp2_with (fail)
          go_meet
          exact ⟨HV5, HB5⟩
      case rest =>
      obtain ⟨hv, hb⟩ := hcut
      clear HV4 HB4 HL4 HST LVV A14
      generalize wr = W0 at *
      obtain ⟨ws, HWS⟩ : ∃ ws, wordsL ds = ws := ⟨_, rfl⟩
      have LWS : Hid (ws.length = 16) := Lib.hid (HWS ▸ wordsL_len ds)
      rw [HWS] at HMC
      replace HWS := Lib.hid HWS
      have HMC : Hid (∀ k, k < 16 → W0.cell? ⟨gm, k, none⟩ = some (.int .u32 (at_ ws k))) := Lib.hid fun k hk => HMC.out k (by first | exact hk | (rw [LWS.out]; exact hk))
      go_wp2_with (fail)
      go_loopw [12, 13, 14] (fun r _ _ wx => ∃ k : Nat, k ≤ 10 ∧ r = .int .i64 k ∧ Hid (OwnW wx q (.slice (some ⟨pv, 0, none⟩) 16 cv) (roundsL ws v0 k)) ∧ Hid (Below q W0 wx)) (fun r _ _ _ => 10 - (intOf r).toNat)
      case atStart => exact ⟨0, Nat.zero_le _, rfl, hv, hb⟩
      case round =>
        obtain ⟨k, hk, rfl, hv, hb⟩ := hrel
        have hs0 : q ≤ wr.heap.size := by have := hb.out.size; rw [HQ.out] at this; exact this
        by_cases g2 : k < 10
        · have gI : (k : Int) < 10 := by omega
          go_wp2_with (fail)
          refine (row_any wr k g2).mono ?_
          rintro e w5 ⟨⟨g, rfl, r1, r2, hrow⟩, q5⟩
          have HV5 := Lib.hid (hv.out.below q5)
          have HB5 := Lib.hid (hb.out.trans (q5.mono hs0))
          have HRW := Lib.hid hrow
          have HGL := Lib.hid r2
          have HGQ : Hid (q ≤ g) := Lib.hid (Nat.le_trans hs0 r1)
          have HGP : Hid (g ≠ pv) := Lib.hid (by
            obtain ⟨gv, cv2, e, -, hl, -⟩ := hv.out.form (by rw [roundsL_len, LV0.out]; omega)
            have e1 : pv = gv := by have := congrArg (fun v => match v with | Value.slice (some a) _ _ => a.block | _ => 0) e; exact this
            omega)
          have HSU : Hid (roundsL ws v0 (k + 1) = stepsL ws k (roundsL ws v0 k) 8) := Lib.hid rfl
          have LY : Hid ((roundsL ws v0 k).length = 16) := Lib.hid (by rw [roundsL_len]; exact LV0.out)
          generalize roundsL ws v0 k = y0 at *
          clear hv hb hrow r1 r2 q5 hs0
          go_wp2_with (fail)
          go_loopw [14] (fun j wx => ∃ i : Nat, i ≤ 8 ∧ j = .int .i64 i ∧ Hid (OwnW wx q (.slice (some ⟨pv, 0, none⟩) 16 cv) (stepsL ws k y0 i)) ∧ Hid (Below q W0 wx) ∧ Hid (RowAt wx g k) ∧ Hid (g < wx.heap.size)) (fun j _ => 8 - (intOf j).toNat)
          case atStart => exact ⟨0, Nat.zero_le _, rfl, HV5, HB5, HRW, HGL⟩
          case round =>
            obtain ⟨i, hi, rfl, hv, hb, hrow, hgl⟩ := hrel
            clear HV5 HB5 HRW HGL
            by_cases g3 : i < 8
            · have gJ : (i : Int) < 8 := by omega
              obtain ⟨i2, hi2⟩ : ∃ z, 2 * i = z := ⟨_, rfl⟩
              have e0 : (2 : Int) * i = (i2 : Int) := by omega
              obtain ⟨na, hna⟩ : ∃ z, rowV k i2 = z := ⟨_, rfl⟩
              obtain ⟨nb', hnb⟩ : ∃ z, rowV k (i2 + 1) = z := ⟨_, rfl⟩
              have ba : na < 16 := hna ▸ rowV_lt k i2 g2 (by omega)
              have bb : nb' < 16 := hnb ▸ rowV_lt k (i2 + 1) g2 (by omega)
              have HKEEP : Hid (∀ w', Below wr.heap.size wr w' → (w'.cell? ⟨g, i2, none⟩ = some (.int .i64 (na : Int)) ∧ w'.cell? ⟨g, i2 + 1, none⟩ = some (.int .i64 (nb' : Int)) ∧ w'.cell? ⟨gm, na, none⟩ = some (.int .u32 (at_ ws na)) ∧ w'.cell? ⟨gm, nb', none⟩ = some (.int .u32 (at_ ws nb')))) := Lib.hid fun w' h => by
                have hgm : gm < wr.heap.size := by have := hb.out.size; rw [HQ.out] at this; have := HGM.out; omega
                exact ⟨kept_cell h (by rw [hrow.out i2 (by omega), hna]) hgl.out, kept_cell h (by rw [hrow.out (i2 + 1) (by omega), hnb]) hgl.out, kept_cell h (kept_cell hb.out (HMC.out na ba) HGM.out) hgm, kept_cell h (kept_cell hb.out (HMC.out nb' bb) HGM.out) hgm⟩
              obtain ⟨ra, rb, ma, mb⟩ := HKEEP.out wr (Below.refl _ _)
              have k0 : (i2 : Int) < 16 := by omega
              have k1 : (i2 : Int) + 1 < 16 := by omega
              have k2 : (0 : Int) ≤ i2 := by omega
              have k3 : (0 : Int) ≤ (i2 : Int) + 1 := by omega
              have k4 : ((i2 : Int) + 1).toNat = i2 + 1 := by omega
              have k5 : (na : Int) < 16 := by omega
              have k6 : (nb' : Int) < 16 := by omega
              have k7 : IntKind.i64.wrap (i2 : Int) = i2 := by rw [IntKind.wrap_i64]; omega
              have k8 : IntKind.i64.wrap ((i2 : Int) + 1) = i2 + 1 := by rw [IntKind.wrap_i64]; omega
              replace hi2 := Lib.hid hi2
              replace hna := Lib.hid hna
              replace hnb := Lib.hid hnb
              obtain ⟨o1, o2, o3, o4, o5, o6, o7, o8, o9, o10⟩ := lanes_ok i g3
              have HVA : Hid (OwnW (wr.alloc (intsO [la i, lb i, lc i, ld i])) q (.slice (some ⟨pv, 0, none⟩) 16 cv) (stepsL ws k y0 i)) := Lib.hid (hv.out.keep (fun g hg => Below.heap_alloc wr _ g hg))
              have LYI : Hid ((stepsL ws k y0 i).length = 16) := Lib.hid (by rw [stepsL_len]; exact LY.out)
              obtain ⟨gv, cv2, e, -, -, -, hc4, hf4⟩ := HVA.out.form (by rw [LYI.out]; omega)
              obtain ⟨rfl, rfl⟩ : pv = gv ∧ cv = cv2 := by simpa [LYI.out] using e
              rw [LYI.out] at hc4
              have hin := heap_alloc_new wr (intsO [la i, lb i, lc i, ld i])
              have HCA := Lib.hid hc4
              have HFA : Hid (∀ k, k < 16 → (wr.alloc (intsO [la i, lb i, lc i, ld i])).frozen? ⟨pv, k, none⟩ = false) := Lib.hid fun k _ => hf4 k
              have L0 : Hid ((wr.alloc (intsO [la i, lb i, lc i, ld i])).cell? ⟨wr.heap.size, 0, none⟩ = some (.int .i64 (la i : Int))) := Lib.hid (ints_cell hin 0 (by simp))
              have L1 : Hid ((wr.alloc (intsO [la i, lb i, lc i, ld i])).cell? ⟨wr.heap.size, 1, none⟩ = some (.int .i64 (lb i : Int))) := Lib.hid (ints_cell hin 1 (by simp))
              have L2 : Hid ((wr.alloc (intsO [la i, lb i, lc i, ld i])).cell? ⟨wr.heap.size, 2, none⟩ = some (.int .i64 (lc i : Int))) := Lib.hid (ints_cell hin 2 (by simp))
              have L3 : Hid ((wr.alloc (intsO [la i, lb i, lc i, ld i])).cell? ⟨wr.heap.size, 3, none⟩ = some (.int .i64 (ld i : Int))) := Lib.hid (ints_cell hin 3 (by simp))
              have HCAd : Hid (∀ j, j < 16 → ((wr.alloc (intsO [la i, lb i, lc i, ld i])).drew).cell? ⟨pv, j, none⟩ = some (.int .u32 (at_ (stepsL ws k y0 i) j))) := Lib.hid fun j hj => by have := HCA.out j hj; simpa using this
              have HFAd : Hid (∀ k, k < 16 → ((wr.alloc (intsO [la i, lb i, lc i, ld i])).drew).frozen? ⟨pv, k, none⟩ = false) := Lib.hid fun k hk => by have := HFA.out k hk; simpa using this
              have L0d : Hid (((wr.alloc (intsO [la i, lb i, lc i, ld i])).drew).cell? ⟨wr.heap.size, 0, none⟩ = some (.int .i64 (la i : Int))) := Lib.hid (by have := L0.out; simpa using this)
              have L1d : Hid (((wr.alloc (intsO [la i, lb i, lc i, ld i])).drew).cell? ⟨wr.heap.size, 1, none⟩ = some (.int .i64 (lb i : Int))) := Lib.hid (by have := L1.out; simpa using this)
              have L2d : Hid (((wr.alloc (intsO [la i, lb i, lc i, ld i])).drew).cell? ⟨wr.heap.size, 2, none⟩ = some (.int .i64 (lc i : Int))) := Lib.hid (by have := L2.out; simpa using this)
              have L3d : Hid (((wr.alloc (intsO [la i, lb i, lc i, ld i])).drew).cell? ⟨wr.heap.size, 3, none⟩ = some (.int .i64 (ld i : Int))) := Lib.hid (by have := L3.out; simpa using this)
              have HNE : Hid (wr.heap.size ≠ pv) := Lib.hid (by have := hv.out.form (by rw [LYI.out]; omega); obtain ⟨gv, cv2, e, -, hl, -⟩ := this; have e1 : pv = gv := (by have := congrArg (fun v => match v with | Value.slice (some a) _ _ => a.block | _ => 0) e; exact this); omega)
              have HGMP : Hid (gm ≠ pv) := Lib.hid (by have := HGM.out; have := HPV.out; omega)
              have HBA := Lib.hid (hb.out.alloc (by have := hb.out.size; rw [HQ.out] at this; exact this) (intsO [la i, lb i, lc i, ld i]))
              have HPQ := HPV
              clear hc4 hf4 hin e hv hb
              go_wp2_with (fail)
              go_region_held3 (fun w' => w'.cell? ⟨g, i2, none⟩ = some (.int .i64 (na : Int)) ∧ w'.cell? ⟨g, i2 + 1, none⟩ = some (.int .i64 (nb' : Int)) ∧ w'.cell? ⟨gm, na, none⟩ = some (.int .u32 (at_ ws na)) ∧ w'.cell? ⟨gm, nb', none⟩ = some (.int .u32 (at_ ws nb'))) (first | exact ⟨ra, rb, ma, mb⟩ | exact HKEEP.out _ (Below.new wr _) | exact HKEEP.out _ ((Below.new wr _).drew) | (have HK1 := HKEEP.out _ (Below.new wr (intsO [la i, lb i, lc i, ld i])); exact ⟨sets4_far HGP.out HK1.1, sets4_far HGP.out HK1.2.1, sets4_far HGMP.out HK1.2.2.1, sets4_far HGMP.out HK1.2.2.2⟩))
                (first
                  | (go_at_call 51; refine (lane_any _ i g3).mono ?_; rintro e wl ⟨rfl, rfl⟩)
                  | (go_at_call 50; refine (g_any pv wr.heap.size (la i) (lb i) (lc i) (ld i) cv 4 (stepsL ws k y0 i) (at_ ws na) (at_ ws nb') (fun k hk => by first | exact HCA.out k hk | exact HCAd.out k hk) (fun k hk => by first | exact HFA.out k hk | exact HFAd.out k hk) HNE.out (by first | exact L0.out | exact L0d.out) (by first | exact L1.out | exact L1d.out) (by first | exact L2.out | exact L2d.out) (by first | exact L3.out | exact L3d.out) o1 o2 o3 o4 o5 o6 o7 o8 o9 o10).mono ?_; rintro e w6 ⟨rfl, nn, rfl⟩))
              have HSS : Hid (mixL (stepsL ws k y0 i) (la i) (lb i) (lc i) (ld i) (at_ ws na) (at_ ws nb') = stepsL ws k y0 (i + 1)) := Lib.hid (by rw [← hna.out, ← hnb.out, ← hi2.out]; rfl)
              unfold mixL at HSS
              generalize gq (at_ (stepsL ws k y0 i) (la i)) (at_ (stepsL ws k y0 i) (lb i)) (at_ (stepsL ws k y0 i) (lc i)) (at_ (stepsL ws k y0 i) (ld i)) (at_ ws na) (at_ ws nb') = G at *
              have HO6 := ((((HVA.out.drewN (1 + nn)).set_ (j := la i) G.a).set_ (j := lb i) G.b).set_ (j := lc i) G.c).set_ (j := ld i) G.d
              have HSE := HSS.out
              rw [HSE] at HO6
              replace HO6 := Lib.hid HO6
              have HB6 : Below q W0 ((wr.alloc (intsO [la i, lb i, lc i, ld i])).drewN (1 + nn)) := ⟨HBA.out.os, HBA.out.tape, HBA.out.output, HBA.out.size, HBA.out.block⟩
              have HB7 := Lib.hid ((((HB6.setCell (p := ⟨pv, la i, none⟩) HPV.out (.int .u32 G.a)).setCell (p := ⟨pv, lb i, none⟩) HPV.out (.int .u32 G.b)).setCell (p := ⟨pv, lc i, none⟩) HPV.out (.int .u32 G.c)).setCell (p := ⟨pv, ld i, none⟩) HPV.out (.int .u32 G.d))
              have HR7 : Hid (RowAt ((((((wr.alloc (intsO [la i, lb i, lc i, ld i])).drewN (1 + nn)).setCell ⟨pv, la i, none⟩ (.int .u32 G.a)).setCell ⟨pv, lb i, none⟩ (.int .u32 G.b)).setCell ⟨pv, lc i, none⟩ (.int .u32 G.c)).setCell ⟨pv, ld i, none⟩ (.int .u32 G.d)) g k) := Lib.hid fun j hj => sets4_far HGP.out (kept_cell (Below.new wr _) (hrow.out j hj) hgl.out)
              have HG7 : Hid (g < ((((((wr.alloc (intsO [la i, lb i, lc i, ld i])).drewN (1 + nn)).setCell ⟨pv, la i, none⟩ (.int .u32 G.a)).setCell ⟨pv, lb i, none⟩ (.int .u32 G.b)).setCell ⟨pv, lc i, none⟩ (.int .u32 G.c)).setCell ⟨pv, ld i, none⟩ (.int .u32 G.d)).heap.size) := Lib.hid (by have := hgl.out; simp; omega)
              clear HSE HB6 HSS HVA HBA HCA HFA HCAd HFAd L0 L1 L2 L3 L0d L1d L2d L3d HKEEP ra rb ma mb k0 k1 k2 k3 k4 k5 k6 k7 k8 hrow hgl o1 o2 o3 o4 o5 o6 o7 o8 o9 o10
              generalize ((((((wr.alloc (intsO [la i, lb i, lc i, ld i])).drewN (1 + nn)).setCell ⟨pv, la i, none⟩ (.int .u32 G.a)).setCell ⟨pv, lb i, none⟩ (.int .u32 G.b)).setCell ⟨pv, lc i, none⟩ (.int .u32 G.c)).setCell ⟨pv, ld i, none⟩ (.int .u32 G.d)) = W7 at *
              go_wp2_with (fail)
              go_roundw
              case rel => exact ⟨i + 1, by omega, by go_num, HO6, HB7, HR7, HG7⟩
              case measure => simp [intOf]; omega
            · obtain rfl : i = 8 := by omega
              rw [show ((8 : Nat) : Int) = (8 : Int) from rfl]
              rw [← HSU.out] at hv
              clear hrow hgl
              go_wp2_with (fail)
              go_roundw
              case rel => exact ⟨k + 1, by omega, by go_num, hv, hb⟩
              case measure => simp [intOf]; omega
        · obtain rfl : k = 10 := by omega
          rw [show ((10 : Nat) : Int) = (10 : Int) from rfl]
          have HCO : Hid (comprL hs (wordsL ds) t (markOf last) = outL hs (roundsL ws v0 10)) := Lib.hid (by rw [HWS.out, ← HV0.out]; rfl)
          have LZ : Hid ((roundsL ws v0 10).length = 16) := Lib.hid (by rw [roundsL_len]; exact LV0.out)
          generalize roundsL ws v0 10 = V at *
          obtain ⟨gv, cv2, e, -, hl, -, hc4, -⟩ := hv.out.form (by rw [LZ.out]; omega)
          obtain ⟨rfl, rfl⟩ : pv = gv ∧ cv = cv2 := by simpa [LZ.out] using e
          have HVC : Hid (∀ j, j < 16 → wr.cell? ⟨pv, j, none⟩ = some (.int .u32 (at_ V j))) := Lib.hid fun j hj => hc4 j (by rw [LZ.out]; exact hj)
          have HHC : Hid (∀ j, j < 8 → wr.cell? ⟨gh, oh + j, none⟩ = some (.int .u32 (at_ hs j))) := Lib.hid fun j hj => kept_cell hb.out (HHS.out j (by rw [H8.out]; exact hj)) (by have := HGH.out; have := HPP.out; have := HLE.out; omega)
          obtain ⟨q2, hq2⟩ : ∃ z, wr.heap.size = z := ⟨_, rfl⟩
          have HPV2 : Hid (pv < q2) := Lib.hid (hq2 ▸ hl)
          have HGH2 : Hid (gh < q2) := Lib.hid (by have := HGH.out; have := HPP.out; have := HLE.out; omega)
          have HLE2 : Hid (p ≤ q2) := Lib.hid (by have := HLE.out; omega)
          have HBW : Hid (Below p w wr) := Lib.hid (hbl.out.trans (hb.out.mono HLE.out))
          clear hc4 e hl hs0 hb hv HHS HWS HV0 LV0 HMC hbl
          have HQ2 := Lib.hid hq2
          clear hq2
          generalize wr = W2 at *
          have HO9 : Hid (OwnW W2 q2 (.slice none 0 0) (outN hs V 0)) := Lib.hid (OwnW.nil_ _ _)
          have HB9 : Hid (Below q2 W2 W2) := Lib.hid (Below.refl _ _)
          go_wp2_with (fail)
          go_loopw [15, 16] (fun m i wx => ∃ k : Nat, k ≤ 8 ∧ i = .int .i64 k ∧ Hid (OwnW wx q2 m (outN hs V k)) ∧ Hid (Below q2 W2 wx) ∧ Hid (∃ A n c, m = .slice A n c)) (fun _ i _ => 8 - (intOf i).toNat)
          case atStart => exact ⟨0, Nat.zero_le _, rfl, HO9, HB9, Lib.hid ⟨_, _, _, rfl⟩⟩
          case round =>
            obtain ⟨k, hk, rfl, ho, hbl, hm⟩ := hrel
            clear HO9 HB9
            by_cases g1 : k < 8
            · have gI : (k : Int) < 8 := by omega
              have HWD : Hid (bits .xor .u32 (bits .xor .u32 (at_ hs k) (at_ V k)) (at_ V (k + 8)) = xo (at_ hs k) (xo (at_ V k) (at_ V (8 + k)))) := Lib.hid (by rw [Nat.add_comm 8 k]; exact xo_assoc _ _ _)
              have c0 : wr.cell? ⟨gh, oh + k, none⟩ = some (.int .u32 (at_ hs k)) := kept_cell hbl.out (HHC.out k g1) HGH2.out
              have c1 : wr.cell? ⟨pv, k, none⟩ = some (.int .u32 (at_ V k)) := kept_cell hbl.out (HVC.out k (by omega)) HPV2.out
              have c2 : wr.cell? ⟨pv, k + 8, none⟩ = some (.int .u32 (at_ V (k + 8))) := kept_cell hbl.out (HVC.out (k + 8) (by omega)) HPV2.out
              have i1 : (k : Int) + 8 < 16 := by omega
              have i3 : (k : Int) < 16 := by omega
              have j0 : (0 : Int) ≤ k := by omega
              have j1 : (0 : Int) ≤ (k : Int) + 8 := by omega
              have t1 : ((k : Int) + 8).toNat = k + 8 := by omega
              have hsz : q2 ≤ wr.heap.size := by have := hbl.out.size; rw [HQ2.out] at this; exact this
              have v1 : IntKind.i64.wrap ((k : Int) + 8) = k + 8 := by rw [IntKind.wrap_i64]; omega
              have v2 : IntKind.i64.wrap (k : Int) = k := by rw [IntKind.wrap_i64]; omega
              have HCC : Hid (∀ w', Below q2 W2 w' → (w'.cell? ⟨gh, oh + k, none⟩ = some (.int .u32 (at_ hs k)) ∧ w'.cell? ⟨pv, k, none⟩ = some (.int .u32 (at_ V k)) ∧ w'.cell? ⟨pv, k + 8, none⟩ = some (.int .u32 (at_ V (k + 8))))) := Lib.hid fun w' h => ⟨kept_cell h (HHC.out k g1) HGH2.out, kept_cell h (HVC.out k (by omega)) HPV2.out, kept_cell h (HVC.out (k + 8) (by omega)) HPV2.out⟩
              obtain ⟨A, n, c, rfl⟩ := hm.out
              go_wp2_with (fail)
              go_region_held3 (fun w' => w'.cell? ⟨gh, oh + k, none⟩ = some (.int .u32 (at_ hs k)) ∧ w'.cell? ⟨pv, k, none⟩ = some (.int .u32 (at_ V k)) ∧ w'.cell? ⟨pv, k + 8, none⟩ = some (.int .u32 (at_ V (k + 8)))) (first | exact ⟨c0, c1, c2⟩ | exact HCC.out _ hbl.out.drew | exact HCC.out _ ((hbl.out.alloc hsz _).drew) | exact HCC.out _ h2)
                (first | (refine stepW1 rfl _ _ _ rfl Tryd.underlying62 rfl (by first | exact (ho.out.keep (fun g hg => Below.heap_alloc wr _ g hg)).drewN 1 | exact (ho.out.keep (fun g hg => Below.heap_alloc wr _ g hg))) (W := W2) (by first | exact (hbl.out.alloc hsz _).drew) (by simp; omega) wr.heap.size (xo (at_ hs k) (xo (at_ V k) (at_ V (8 + k)))) rfl (by rw [← HWD.out]; show (wr.alloc _).cell? _ = _; rw [World.cell?_alloc_at _ _ _ _ rfl]; rfl) k (outN_len hs V k).symm (by omega) ?_; intro g' c' w' h1 h2))
              have HO1 := Lib.hid h1
              have HB1 := Lib.hid h2
              rw [outN_succ] at HO1
              clear h1 h2 ho hbl hm c0 c1 c2 i1 i3 j0 j1 t1 v1 v2 HCC
              go_wp2_with (fail)
              go_roundw
              case rel => exact ⟨k + 1, by omega, by go_num, HO1, HB1, Lib.hid ⟨_, _, _, rfl⟩⟩
              case measure => simp [intOf]; omega
            · obtain rfl : k = 8 := by omega
              rw [show ((8 : Nat) : Int) = (8 : Int) from rfl]
              have HBE : Hid (Below p w wr) := Lib.hid (HBW.out.trans (hbl.out.mono HLE2.out))
              have HOE := ho.out.less HLE2.out
              rw [show outN hs V 8 = comprL hs (wordsL ds) t (markOf last) by rw [HCO.out]; rfl] at HOE
              replace HOE := Lib.hid HOE
              clear ho hbl
              go_wp2_with (fail)
              go_ret
              refine ⟨⟨_, rfl, ?_⟩, ?_⟩
              · first | exact HOE.out | (rw [HPP.out]; exact HOE.out)
              · first | exact HBE.out | (rw [HPP.out]; exact HBE.out)
end Go.Proofs.YtdjfklllfbenjaaDoor
