/- Package blake: compress. -/
import Derived.Test.YtdjfklllfbenjaaDoorBe0
import Derived.StillTailTactics
namespace Go.Proofs.YtdjfklllfbenjaaDoor
open Go.RowKit

theorem below_new_row (wr : World) (es : List Int) : Below wr.heap.size wr ((wr.alloc (.cells (u8s [0, 0, 0, 0, 0, 0, 0, 0, 0, 0, 0, 0, 0, 0, 0, 0]) 86)).setRow wr.heap.size (u8s es)) := below_setRow (Below.new wr _) (Nat.le_refl _)
set_option maxRecDepth 100000 in
set_option maxHeartbeats 4000000 in
theorem compress_any (b o c : Nat) (h ds : List Int) (t mark : Int) (w : World) (h8 : h.length = 8) (hc : ∀ k, k < 64 → w.cell? ⟨b, o + k, none⟩ = some (.int .u8 (at_ ds k))) (h64 : 64 ≤ c) (htab : Tabs w) :
    Calls Tryd.prog 54 #[.agg (u32s h), .slice (some ⟨b, o, none⟩) 64 c, .int .u64 t, .int .u32 mark] w fun e w' => e = .returned (.agg (u32s (comprL h (wordsL ds) t mark))) ∧ Below w.heap.size w w' := by
  have hlt : b < w.heap.size := block_lt_of_cell (hc 0 (by omega))
  have HC := Lib.hid hc
  have HT := Lib.hid htab
  have H8 := Lib.hid h8
  obtain ⟨n1, n2, n3, n4, n5⟩ := three_new w 67 67 84 (u32s h) (u32s [0, 0, 0, 0, 0, 0, 0, 0]) (u32s [0, 0, 0, 0, 0, 0, 0, 0, 0, 0, 0, 0, 0, 0, 0, 0])
  rw [zero8, zero16] at n1 n2 n3 n4 n5
  have N1 := Lib.hid n1
  have N2 := Lib.hid n2
  have N3 := Lib.hid n3
  have N4 := Lib.hid n4
  have N5 := Lib.hid n5
  clear hc n1 n2 n3 n4 n5 htab h8
  go_enter Tryd.func54, Tryd.ntmps54
  go_wp2_with (fail)
  generalize hW1 : ((w.alloc (.cells (u32s h) 67)).alloc (.cells #[.int .u32 0, .int .u32 0, .int .u32 0, .int .u32 0, .int .u32 0, .int .u32 0, .int .u32 0, .int .u32 0] 67)).alloc (.cells #[.int .u32 0, .int .u32 0, .int .u32 0, .int .u32 0, .int .u32 0, .int .u32 0, .int .u32 0, .int .u32 0, .int .u32 0, .int .u32 0, .int .u32 0, .int .u32 0, .int .u32 0, .int .u32 0, .int .u32 0, .int .u32 0] 84) = W1 at *
  clear hW1
  have HBL : Hid (b < w.heap.size) := Lib.hid hlt
  have HP : Hid (2 ≤ w.heap.size) := Lib.hid HT.out.lt
  generalize hp : w.heap.size = p at *
  clear hlt
  have HG : Hid (W1.drew.heap[p + 1 + 1]? = some (.cells ((List.replicate 16 (0 : Int)).map (Value.int .u32)).toArray 84 (0, 0))) := N3
  have HS : Hid (∀ j v, (h.map (Value.int .u32))[j]? = some v → W1.drew.cell? ((⟨p, 0, none⟩ : Addr).add j) = some v) := by
    refine Lib.hid fun j v hv => ?_
    have := cell_of_row W1 p (0 + j) (u32s h) 67 (0, 0) N1.out
    rw [Nat.zero_add] at this
    rw [show ((⟨p, 0, none⟩ : Addr).add j) = ⟨p, j, none⟩ by simp [Addr.add]; intro h; exact h.symm]
    show W1.cell? ⟨p, j, none⟩ = some v
    rw [this]
    simpa [u32s] using hv
  have HN : Hid ((h.map (Value.int .u32)).length = Nat.min 8 8) := Lib.hid (by simpa using H8.out)
  have HF : Hid (0 + (h.map (Value.int .u32)).length ≤ ((List.replicate 16 (0 : Int)).map (Value.int .u32)).length) := Lib.hid (by simp [H8.out])
  have H1 : Hid (∀ v ∈ h.map (Value.int .u32), v.oneCell' = true) := Lib.hid (by intro v hv; obtain ⟨z, _, rfl⟩ := List.mem_map.1 hv; rfl)
  go_region_law (refine step_copyB rfl (.tmp 16) (.tmp 17) 62 62 rfl 64 Tryd.underlying62 infoU32 (some ⟨p + 1 + 1, 0, none⟩) (some ⟨p, 0, none⟩) 8 16 8 8 rfl rfl (p + 1 + 1) 0 ((List.replicate 16 (0 : Int)).map (Value.int .u32)) 84 HG.out (h.map (Value.int .u32)) HN.out (fun _ => ⟨rfl, _, rfl, HS.out⟩) HF.out H1.out ?_; intro w2 hg2 hb2)
  have V2 : Hid (U32 w2 (p + 1 + 1) 84 (initTo h 0)) := Lib.hid (by have := hg2.out; rw [splice0 h H8.out] at this; exact this)
  have S2 : Hid (U32 w2 p 67 h) := Lib.hid (U32.but (show U32 W1.drew p 67 h from N1.out) hb2 (by omega))
  have R2 : Hid (U32 w2 (p + 1) 67 [0, 0, 0, 0, 0, 0, 0, 0]) := Lib.hid (U32.but (show U32 W1.drew (p + 1) 67 [0, 0, 0, 0, 0, 0, 0, 0] from N2.out) hb2 (by omega))
  have B2 : Hid (Below p w w2) := Lib.hid (N4.out.trans (undrew (But.below (B := p) hb2 (by omega) (by show p ≤ W1.heap.size; rw [N5.out]; omega))))
  clear N1 N2 N3 N4 N5 HG HS HN HF H1 hg2 hb2
  have T2 : Hid (Tabs w2) := Lib.hid (HT.out.below B2.out HP.out)
  go_wp2_with (refine ldInit rfl _ rfl rfl T2.out ?_)
  go_loopw [10, 11, 20] (fun _ _ i wr => ∃ k : Nat, k ≤ 8 ∧ i = .int .i64 k ∧ Hid (U32 wr (p + 1 + 1) 84 (initTo h k)) ∧ Hid (U32 wr p 67 h) ∧ Hid (U32 wr (p + 1) 67 [0, 0, 0, 0, 0, 0, 0, 0]) ∧ Hid (Below p w wr)) (fun _ _ i _ => 8 - (intOf i).toNat)
  case atStart => exact ⟨0, Nat.zero_le _, rfl, V2, S2, R2, B2⟩
  case round =>
    obtain ⟨k, hk, rfl, hv, hs, hr, hb⟩ := hrel
    clear V2 S2 R2 B2 T2
    by_cases g1 : k < 8
    · have gI : (k : Int) < 8 := by omega
      have hix := index_iv k g1
      have f0 := hv.out.free (8 + k)
      have e0 := hv.out.cell (8 + k) (by rw [initTo_len k H8.out]; omega)
      have HX := Lib.hid (show U32 (wr.setCell ⟨p + 1 + 1, 8 + k, none⟩ (.int .u32 (at_ iv k))) (p + 1 + 1) 84 (initTo h (k + 1)) by rw [← initTo_set k H8.out]; exact hv.out.set_ (8 + k) _)
      have HS := Lib.hid (show U32 (wr.setCell ⟨p + 1 + 1, 8 + k, none⟩ (.int .u32 (at_ iv k))) p 67 _ from hs.out.far (by show p ≠ p + 1 + 1; omega) _)
      have HR := Lib.hid (show U32 (wr.setCell ⟨p + 1 + 1, 8 + k, none⟩ (.int .u32 (at_ iv k))) (p + 1) 67 _ from hr.out.far (by show p + 1 ≠ p + 1 + 1; omega) _)
      have HB := Lib.hid (show Below p w (wr.setCell ⟨p + 1 + 1, 8 + k, none⟩ (.int .u32 (at_ iv k))) from hb.out.setCell (by show p ≤ p + 1 + 1; omega) _)
      clear hv hs hr hb HC
      go_wp2_with (fail)
      go_roundw
      case rel => exact ⟨k + 1, by omega, by go_num, HX, HS, HR, HB⟩
      case measure => simp [intOf]; omega
    · obtain rfl : k = 8 := by omega
      rw [initTo_all] at hv
      rw [show ((8 : Nat) : Int) = (8 : Int) from rfl]
      have L16 : (h ++ iv).length = 16 := by rw [List.length_append, H8.out]; rfl
      have c12 := hv.out.at_at (k := 12) (z := at_ iv 4) (by omega) (by unfold at_; rw [List.getElem?_append_right (by rw [H8.out]; omega), H8.out])
      have c13 := hv.out.at_at (k := 13) (z := at_ iv 5) (by omega) (by unfold at_; rw [List.getElem?_append_right (by rw [H8.out]; omega), H8.out])
      have c14 := hv.out.at_at (k := 14) (z := at_ iv 6) (by omega) (by unfold at_; rw [List.getElem?_append_right (by rw [H8.out]; omega), H8.out])
      have f12 := hv.out.free 12
      have f13 := hv.out.free 13
      have f14 := hv.out.free 14
      generalize h12 : at_ iv 4 = i12 at *
      generalize h13 : at_ iv 5 = i13 at *
      generalize h14 : at_ iv 6 = i14 at *
      have HI12 := Lib.hid h12
      have HI13 := Lib.hid h13
      have HI14 := Lib.hid h14
      clear h12 h13 h14
      go_wp2_with (fail)
      have VX : Hid (U32 (((wr.setCell ⟨p + 1 + 1, 12, none⟩ (.int .u32 (bits .xor .u32 i12 (t % 4294967296)))).setCell ⟨p + 1 + 1, 13, none⟩ (.int .u32 (bits .xor .u32 i13 (t / 4294967296 % 4294967296)))).setCell ⟨p + 1 + 1, 14, none⟩ (.int .u32 (bits .xor .u32 i14 mark))) (p + 1 + 1) 84 (startL h t mark)) := Lib.hid (by
        unfold startL xo
        rw [HI12.out, HI13.out, HI14.out]
        exact ((hv.out.set_ 12 _).set_ 13 _).set_ 14 _)
      have SX : Hid (U32 (((wr.setCell ⟨p + 1 + 1, 12, none⟩ (.int .u32 (bits .xor .u32 i12 (t % 4294967296)))).setCell ⟨p + 1 + 1, 13, none⟩ (.int .u32 (bits .xor .u32 i13 (t / 4294967296 % 4294967296)))).setCell ⟨p + 1 + 1, 14, none⟩ (.int .u32 (bits .xor .u32 i14 mark))) p 67 h) := Lib.hid (((hs.out.far (by show p ≠ p + 1 + 1; omega) _).far (by show p ≠ p + 1 + 1; omega) _).far (by show p ≠ p + 1 + 1; omega) _)
      have RX : Hid (U32 (((wr.setCell ⟨p + 1 + 1, 12, none⟩ (.int .u32 (bits .xor .u32 i12 (t % 4294967296)))).setCell ⟨p + 1 + 1, 13, none⟩ (.int .u32 (bits .xor .u32 i13 (t / 4294967296 % 4294967296)))).setCell ⟨p + 1 + 1, 14, none⟩ (.int .u32 (bits .xor .u32 i14 mark))) (p + 1) 67 [0, 0, 0, 0, 0, 0, 0, 0]) := Lib.hid (((hr.out.far (by show p + 1 ≠ p + 1 + 1; omega) _).far (by show p + 1 ≠ p + 1 + 1; omega) _).far (by show p + 1 ≠ p + 1 + 1; omega) _)
      have BX : Hid (Below p w (((wr.setCell ⟨p + 1 + 1, 12, none⟩ (.int .u32 (bits .xor .u32 i12 (t % 4294967296)))).setCell ⟨p + 1 + 1, 13, none⟩ (.int .u32 (bits .xor .u32 i13 (t / 4294967296 % 4294967296)))).setCell ⟨p + 1 + 1, 14, none⟩ (.int .u32 (bits .xor .u32 i14 mark)))) := Lib.hid (((hb.out.setCell (by show p ≤ p + 1 + 1; omega) _).setCell (by show p ≤ p + 1 + 1; omega) _).setCell (by show p ≤ p + 1 + 1; omega) _)
      generalize ((wr.setCell ⟨p + 1 + 1, 12, none⟩ (.int .u32 (bits .xor .u32 i12 (t % 4294967296)))).setCell ⟨p + 1 + 1, 13, none⟩ (.int .u32 (bits .xor .u32 i13 (t / 4294967296 % 4294967296)))).setCell ⟨p + 1 + 1, 14, none⟩ (.int .u32 (bits .xor .u32 i14 mark)) = W3 at *
      clear hv hs hr hb c12 c13 c14 f12 f13 f14 HI12 HI13 HI14 L16
      refine (wordsOf_any b o c ds W3 (fun k hk => kept_cell BX.out (HC.out k hk) HBL.out) h64).mono ?_
      rintro e w4 ⟨rfl, hq4⟩
      have hp3 : p + 1 + 1 < W3.heap.size := VX.out.lt
      have V4 := Lib.hid (show U32 (w4.alloc (.cells (u32s [0, 0, 0, 0, 0, 0, 0, 0, 0, 0, 0, 0, 0, 0, 0, 0]) 84)) (p + 1 + 1) 84 _ from (VX.out.below hq4 hp3).alloc _)
      have S4 := Lib.hid (show U32 (w4.alloc (.cells (u32s [0, 0, 0, 0, 0, 0, 0, 0, 0, 0, 0, 0, 0, 0, 0, 0]) 84)) p 67 _ from (SX.out.below hq4 (by omega)).alloc _)
      have R4 := Lib.hid (show U32 (w4.alloc (.cells (u32s [0, 0, 0, 0, 0, 0, 0, 0, 0, 0, 0, 0, 0, 0, 0, 0]) 84)) (p + 1) 67 _ from (RX.out.below hq4 (by omega)).alloc _)
      have hp4 : p + 1 + 1 < w4.heap.size := Nat.lt_of_lt_of_le hp3 hq4.size
      have B4 := Lib.hid (show Below p w (w4.alloc (.cells (u32s [0, 0, 0, 0, 0, 0, 0, 0, 0, 0, 0, 0, 0, 0, 0, 0]) 84)) from (BX.out.trans (hq4.mono (by omega))).trans ((Below.new w4 _).mono (by omega)))
      have M4 := Lib.hid (U32.new w4 84 [0, 0, 0, 0, 0, 0, 0, 0, 0, 0, 0, 0, 0, 0, 0, 0])
      rw [zero16] at V4 S4 R4 B4 M4
      have T4 := Lib.hid (HT.out.below (below_setRow (g := w4.heap.size) (cs := u32s (wordsL ds)) B4.out (by omega)) HP.out)
      clear VX SX RX BX hq4
      go_wp2_with (first | (refine st16 rfl _ _ rfl _ rfl _ (wordsL ds) rfl M4.out (wordsL_len ds) rfl ?_) | (refine ldRows rfl _ rfl rfl T4.out ?_))
      have V5 := Lib.hid (show U32 ((w4.alloc (.cells #[.int .u32 0, .int .u32 0, .int .u32 0, .int .u32 0, .int .u32 0, .int .u32 0, .int .u32 0, .int .u32 0, .int .u32 0, .int .u32 0, .int .u32 0, .int .u32 0, .int .u32 0, .int .u32 0, .int .u32 0, .int .u32 0] 84)).setRow w4.heap.size (u32s (wordsL ds))) (p + 1 + 1) 84 _ from V4.out.setRow_other (by omega))
      have S5 := Lib.hid (show U32 ((w4.alloc (.cells #[.int .u32 0, .int .u32 0, .int .u32 0, .int .u32 0, .int .u32 0, .int .u32 0, .int .u32 0, .int .u32 0, .int .u32 0, .int .u32 0, .int .u32 0, .int .u32 0, .int .u32 0, .int .u32 0, .int .u32 0, .int .u32 0] 84)).setRow w4.heap.size (u32s (wordsL ds))) p 67 _ from S4.out.setRow_other (by omega))
      have R5 := Lib.hid (show U32 ((w4.alloc (.cells #[.int .u32 0, .int .u32 0, .int .u32 0, .int .u32 0, .int .u32 0, .int .u32 0, .int .u32 0, .int .u32 0, .int .u32 0, .int .u32 0, .int .u32 0, .int .u32 0, .int .u32 0, .int .u32 0, .int .u32 0, .int .u32 0] 84)).setRow w4.heap.size (u32s (wordsL ds))) (p + 1) 67 _ from R4.out.setRow_other (by omega))
      have B5 := Lib.hid (below_setRow (g := w4.heap.size) (cs := u32s (wordsL ds)) B4.out (by omega))
      have M5 := Lib.hid (show U32 ((w4.alloc (.cells #[.int .u32 0, .int .u32 0, .int .u32 0, .int .u32 0, .int .u32 0, .int .u32 0, .int .u32 0, .int .u32 0, .int .u32 0, .int .u32 0, .int .u32 0, .int .u32 0, .int .u32 0, .int .u32 0, .int .u32 0, .int .u32 0] 84)).setRow w4.heap.size (u32s (wordsL ds))) w4.heap.size 84 (wordsL ds) from M4.out.setRow)
      generalize ((w4.alloc (.cells #[.int .u32 0, .int .u32 0, .int .u32 0, .int .u32 0, .int .u32 0, .int .u32 0, .int .u32 0, .int .u32 0, .int .u32 0, .int .u32 0, .int .u32 0, .int .u32 0, .int .u32 0, .int .u32 0, .int .u32 0, .int .u32 0] 84)).setRow w4.heap.size (u32s (wordsL ds))) = W5 at *
      generalize hg : w4.heap.size = g at *
      have HGP : Hid (p + 1 + 1 < g) := Lib.hid hp4
      clear V4 S4 R4 B4 M4 hp4 hg T4
      obtain ⟨ws, HWS⟩ : ∃ ws, wordsL ds = ws := ⟨_, rfl⟩
      have LWS : Hid (ws.length = 16) := Lib.hid (HWS ▸ wordsL_len ds)
      rw [HWS] at M5
      replace HWS := Lib.hid HWS
      obtain ⟨v0, HV0⟩ : ∃ v0, startL h t mark = v0 := ⟨_, rfl⟩
      have LV0 : Hid (v0.length = 16) := Lib.hid (HV0 ▸ startL_len t mark H8.out)
      rw [HV0] at V5
      replace HV0 := Lib.hid HV0
      go_loopw [14, 50] (fun _ i wr => ∃ k : Nat, k ≤ 10 ∧ i = .int .i64 k ∧ Hid (U32 wr (p + 1 + 1) 84 (roundsL ws v0 k)) ∧ Hid (U32 wr p 67 h) ∧ Hid (U32 wr (p + 1) 67 [0, 0, 0, 0, 0, 0, 0, 0]) ∧ Hid (U32 wr g 84 ws) ∧ Hid (Below p w wr)) (fun _ i _ => 10 - (intOf i).toNat)
      case atStart => exact ⟨0, Nat.zero_le _, rfl, V5, S5, R5, M5, B5⟩
      case round =>
        obtain ⟨k, hk, rfl, hv, hs, hr, hm, hb⟩ := hrel
        clear V5 S5 R5 B5 M5
        by_cases g1 : k < 10
        · have gI : (k : Int) < 10 := by omega
          have hix := index_rows k g1
          have LV : Hid ((roundsL ws v0 k).length = 16) := Lib.hid (by rw [roundsL_len]; exact LV0.out)
          have HSU : Hid (roundsL ws v0 (k + 1) = stepsL ws k (roundsL ws v0 k) 8) := Lib.hid rfl
          obtain ⟨y0, HY0⟩ : ∃ y, roundsL ws v0 k = y := ⟨_, rfl⟩
          rw [HY0] at hv LV HSU
          have hgr := hm.out.lt
          have hpg := HGP.out
          have X := Lib.hid (below_new_row wr (rowZ k))
          have XW := Lib.hid (U8.new wr 86 [0, 0, 0, 0, 0, 0, 0, 0, 0, 0, 0, 0, 0, 0, 0, 0])
          rw [zero16b] at X XW
          have HV := Lib.hid (hv.out.below X.out (by omega))
          have HS := Lib.hid (hs.out.below X.out (by omega))
          have HR := Lib.hid (hr.out.below X.out (by omega))
          have HM := Lib.hid (hm.out.below X.out hgr)
          have HB := Lib.hid (hb.out.trans (X.out.mono (by omega)))
          have HRW := Lib.hid (U8.setRow (es := rowZ k) XW.out)
          clear hv hs hr hm hb HC HY0
          go_wp2_with (refine st16b rfl _ _ rfl _ rfl _ (rowZ k) rfl XW.out (rowZ_len k) rfl ?_)
          have hrl := HRW.out.lt
          generalize (wr.alloc (.cells #[.int .u8 0, .int .u8 0, .int .u8 0, .int .u8 0, .int .u8 0, .int .u8 0, .int .u8 0, .int .u8 0, .int .u8 0, .int .u8 0, .int .u8 0, .int .u8 0, .int .u8 0, .int .u8 0, .int .u8 0, .int .u8 0] 86)).setRow wr.heap.size (u8s (rowZ k)) = X0 at *
          generalize hr : wr.heap.size = r at *
          have HRP : Hid (p + 1 + 1 < r) := Lib.hid (by omega)
          have HRG : Hid (g < r) := Lib.hid hgr
          clear X XW hr hgr hpg hrl
          have HV0' := HV
          have G1 := Lib.hid g1
          clear g1 gI hix
          obtain ⟨n0, E0⟩ : ∃ n, rowV k 0 = n := ⟨_, rfl⟩
          obtain ⟨n1, E1⟩ : ∃ n, rowV k 1 = n := ⟨_, rfl⟩
          have b0 : n0 < 16 := E0 ▸ rowV_lt k 0 G1.out (by omega)
          have b1 : n1 < 16 := E1 ▸ rowV_lt k 1 G1.out (by omega)
          have i0 : (n0 : Int) < 16 := by omega
          have i1 : (n1 : Int) < 16 := by omega
          have r0 := HRW.out.at_at (k := 0) (z := (n0 : Int)) (by rw [rowZ_len]; omega) (by rw [rowZ_at _ _ (by omega), E0])
          have r1 := HRW.out.at_at (k := 1) (z := (n1 : Int)) (by rw [rowZ_len]; omega) (by rw [rowZ_at _ _ (by omega), E1])
          have m0 := HM.out.cell n0 (by rw [LWS.out]; exact b0)
          have m1 := HM.out.cell n1 (by rw [LWS.out]; exact b1)
          have E0' := Lib.hid E0
          have E1' := Lib.hid E1
          clear E0 E1
          obtain ⟨x0, EX0⟩ : ∃ x, at_ ws n0 = x := ⟨_, rfl⟩
          obtain ⟨x1, EX1⟩ : ∃ x, at_ ws n1 = x := ⟨_, rfl⟩
          rw [EX0] at m0
          rw [EX1] at m1
          replace EX0 := Lib.hid EX0
          replace EX1 := Lib.hid EX1
          go_still_tail 8, (by kernel_rfl)
          change wpList _ _ _ _ _ X0.drew
          have HVD := Lib.hid (show U32 X0.drew (p + 1 + 1) 84 y0 from HV.out)
          clear r0 r1 m0 m1 b0 b1 i0 i1
          go_wp2_with (fail)
          refine (mix_any 0 4 8 12 x0 x1 HVD.out LV.out (by omega) (by omega) (by omega) (by omega) (by omega) (by omega) (by omega) (by omega) (by omega) (by omega)).mono ?_
          rintro e X1 ⟨rfl, hv, hbu⟩
          obtain ⟨y1, HY1⟩ : ∃ y, mixL y0 0 4 8 12 x0 x1 = y := ⟨_, rfl⟩
          rw [HY1] at hv
          replace LV : Hid (y1.length = 16) := Lib.hid (by rw [← HY1, mixL_len]; exact LV.out)
          replace HY1 := Lib.hid HY1
          replace HV := Lib.hid hv
          replace HS := Lib.hid (U32.but (show U32 X0.drew p 67 h from HS.out) hbu (by omega))
          replace HR := Lib.hid (U32.but (show U32 X0.drew (p + 1) 67 [0, 0, 0, 0, 0, 0, 0, 0] from HR.out) hbu (by omega))
          replace HM := Lib.hid (U32.but (show U32 X0.drew g 84 ws from HM.out) hbu (by have := HGP.out; omega))
          replace HRW := Lib.hid (U8.but (show U8 X0.drew r 86 (rowZ k) from HRW.out) hbu (by have := HRP.out; omega))
          replace HB := Lib.hid (HB.out.trans (undrew (But.below (B := p) hbu (by omega) (by have := HB.out.size; show p ≤ X0.heap.size; omega))))
          clear hv hbu HVD
          go_wp2_with (fail)
          obtain ⟨n2, E2⟩ : ∃ n, rowV k 2 = n := ⟨_, rfl⟩
          obtain ⟨n3, E3⟩ : ∃ n, rowV k 3 = n := ⟨_, rfl⟩
          have b2 : n2 < 16 := E2 ▸ rowV_lt k 2 G1.out (by omega)
          have b3 : n3 < 16 := E3 ▸ rowV_lt k 3 G1.out (by omega)
          have i2 : (n2 : Int) < 16 := by omega
          have i3 : (n3 : Int) < 16 := by omega
          have r2 := HRW.out.at_at (k := 2) (z := (n2 : Int)) (by rw [rowZ_len]; omega) (by rw [rowZ_at _ _ (by omega), E2])
          have r3 := HRW.out.at_at (k := 3) (z := (n3 : Int)) (by rw [rowZ_len]; omega) (by rw [rowZ_at _ _ (by omega), E3])
          have m2 := HM.out.cell n2 (by rw [LWS.out]; exact b2)
          have m3 := HM.out.cell n3 (by rw [LWS.out]; exact b3)
          have E2' := Lib.hid E2
          have E3' := Lib.hid E3
          clear E2 E3
          obtain ⟨x2, EX2⟩ : ∃ x, at_ ws n2 = x := ⟨_, rfl⟩
          obtain ⟨x3, EX3⟩ : ∃ x, at_ ws n3 = x := ⟨_, rfl⟩
          rw [EX2] at m2
          rw [EX3] at m3
          replace EX2 := Lib.hid EX2
          replace EX3 := Lib.hid EX3
          go_still_tail 8, (by kernel_rfl)
          change wpList _ _ _ _ _ X1.drew
          have HVD := Lib.hid (show U32 X1.drew (p + 1 + 1) 84 y1 from HV.out)
          clear r2 r3 m2 m3 b2 b3 i2 i3
          go_wp2_with (fail)
          refine (mix_any 1 5 9 13 x2 x3 HVD.out LV.out (by omega) (by omega) (by omega) (by omega) (by omega) (by omega) (by omega) (by omega) (by omega) (by omega)).mono ?_
          rintro e X2 ⟨rfl, hv, hbu⟩
          obtain ⟨y2, HY2⟩ : ∃ y, mixL y1 1 5 9 13 x2 x3 = y := ⟨_, rfl⟩
          rw [HY2] at hv
          replace LV : Hid (y2.length = 16) := Lib.hid (by rw [← HY2, mixL_len]; exact LV.out)
          replace HY2 := Lib.hid HY2
          replace HV := Lib.hid hv
          replace HS := Lib.hid (U32.but (show U32 X1.drew p 67 h from HS.out) hbu (by omega))
          replace HR := Lib.hid (U32.but (show U32 X1.drew (p + 1) 67 [0, 0, 0, 0, 0, 0, 0, 0] from HR.out) hbu (by omega))
          replace HM := Lib.hid (U32.but (show U32 X1.drew g 84 ws from HM.out) hbu (by have := HGP.out; omega))
          replace HRW := Lib.hid (U8.but (show U8 X1.drew r 86 (rowZ k) from HRW.out) hbu (by have := HRP.out; omega))
          replace HB := Lib.hid (HB.out.trans (undrew (But.below (B := p) hbu (by omega) (by have := HB.out.size; show p ≤ X1.heap.size; omega))))
          clear hv hbu HVD
          go_wp2_with (fail)
          obtain ⟨n4, E4⟩ : ∃ n, rowV k 4 = n := ⟨_, rfl⟩
          obtain ⟨n5, E5⟩ : ∃ n, rowV k 5 = n := ⟨_, rfl⟩
          have b4 : n4 < 16 := E4 ▸ rowV_lt k 4 G1.out (by omega)
          have b5 : n5 < 16 := E5 ▸ rowV_lt k 5 G1.out (by omega)
          have i4 : (n4 : Int) < 16 := by omega
          have i5 : (n5 : Int) < 16 := by omega
          have r4 := HRW.out.at_at (k := 4) (z := (n4 : Int)) (by rw [rowZ_len]; omega) (by rw [rowZ_at _ _ (by omega), E4])
          have r5 := HRW.out.at_at (k := 5) (z := (n5 : Int)) (by rw [rowZ_len]; omega) (by rw [rowZ_at _ _ (by omega), E5])
          have m4 := HM.out.cell n4 (by rw [LWS.out]; exact b4)
          have m5 := HM.out.cell n5 (by rw [LWS.out]; exact b5)
          have E4' := Lib.hid E4
          have E5' := Lib.hid E5
          clear E4 E5
          obtain ⟨x4, EX4⟩ : ∃ x, at_ ws n4 = x := ⟨_, rfl⟩
          obtain ⟨x5, EX5⟩ : ∃ x, at_ ws n5 = x := ⟨_, rfl⟩
          rw [EX4] at m4
          rw [EX5] at m5
          replace EX4 := Lib.hid EX4
          replace EX5 := Lib.hid EX5
          go_still_tail 8, (by kernel_rfl)
          change wpList _ _ _ _ _ X2.drew
          have HVD := Lib.hid (show U32 X2.drew (p + 1 + 1) 84 y2 from HV.out)
          clear r4 r5 m4 m5 b4 b5 i4 i5
          go_wp2_with (fail)
          refine (mix_any 2 6 10 14 x4 x5 HVD.out LV.out (by omega) (by omega) (by omega) (by omega) (by omega) (by omega) (by omega) (by omega) (by omega) (by omega)).mono ?_
          rintro e X3 ⟨rfl, hv, hbu⟩
          obtain ⟨y3, HY3⟩ : ∃ y, mixL y2 2 6 10 14 x4 x5 = y := ⟨_, rfl⟩
          rw [HY3] at hv
          replace LV : Hid (y3.length = 16) := Lib.hid (by rw [← HY3, mixL_len]; exact LV.out)
          replace HY3 := Lib.hid HY3
          replace HV := Lib.hid hv
          replace HS := Lib.hid (U32.but (show U32 X2.drew p 67 h from HS.out) hbu (by omega))
          replace HR := Lib.hid (U32.but (show U32 X2.drew (p + 1) 67 [0, 0, 0, 0, 0, 0, 0, 0] from HR.out) hbu (by omega))
          replace HM := Lib.hid (U32.but (show U32 X2.drew g 84 ws from HM.out) hbu (by have := HGP.out; omega))
          replace HRW := Lib.hid (U8.but (show U8 X2.drew r 86 (rowZ k) from HRW.out) hbu (by have := HRP.out; omega))
          replace HB := Lib.hid (HB.out.trans (undrew (But.below (B := p) hbu (by omega) (by have := HB.out.size; show p ≤ X2.heap.size; omega))))
          clear hv hbu HVD
          go_wp2_with (fail)
          obtain ⟨n6, E6⟩ : ∃ n, rowV k 6 = n := ⟨_, rfl⟩
          obtain ⟨n7, E7⟩ : ∃ n, rowV k 7 = n := ⟨_, rfl⟩
          have b6 : n6 < 16 := E6 ▸ rowV_lt k 6 G1.out (by omega)
          have b7 : n7 < 16 := E7 ▸ rowV_lt k 7 G1.out (by omega)
          have i6 : (n6 : Int) < 16 := by omega
          have i7 : (n7 : Int) < 16 := by omega
          have r6 := HRW.out.at_at (k := 6) (z := (n6 : Int)) (by rw [rowZ_len]; omega) (by rw [rowZ_at _ _ (by omega), E6])
          have r7 := HRW.out.at_at (k := 7) (z := (n7 : Int)) (by rw [rowZ_len]; omega) (by rw [rowZ_at _ _ (by omega), E7])
          have m6 := HM.out.cell n6 (by rw [LWS.out]; exact b6)
          have m7 := HM.out.cell n7 (by rw [LWS.out]; exact b7)
          have E6' := Lib.hid E6
          have E7' := Lib.hid E7
          clear E6 E7
          obtain ⟨x6, EX6⟩ : ∃ x, at_ ws n6 = x := ⟨_, rfl⟩
          obtain ⟨x7, EX7⟩ : ∃ x, at_ ws n7 = x := ⟨_, rfl⟩
          rw [EX6] at m6
          rw [EX7] at m7
          replace EX6 := Lib.hid EX6
          replace EX7 := Lib.hid EX7
          go_still_tail 8, (by kernel_rfl)
          change wpList _ _ _ _ _ X3.drew
          have HVD := Lib.hid (show U32 X3.drew (p + 1 + 1) 84 y3 from HV.out)
          clear r6 r7 m6 m7 b6 b7 i6 i7
          go_wp2_with (fail)
          refine (mix_any 3 7 11 15 x6 x7 HVD.out LV.out (by omega) (by omega) (by omega) (by omega) (by omega) (by omega) (by omega) (by omega) (by omega) (by omega)).mono ?_
          rintro e X4 ⟨rfl, hv, hbu⟩
          obtain ⟨y4, HY4⟩ : ∃ y, mixL y3 3 7 11 15 x6 x7 = y := ⟨_, rfl⟩
          rw [HY4] at hv
          replace LV : Hid (y4.length = 16) := Lib.hid (by rw [← HY4, mixL_len]; exact LV.out)
          replace HY4 := Lib.hid HY4
          replace HV := Lib.hid hv
          replace HS := Lib.hid (U32.but (show U32 X3.drew p 67 h from HS.out) hbu (by omega))
          replace HR := Lib.hid (U32.but (show U32 X3.drew (p + 1) 67 [0, 0, 0, 0, 0, 0, 0, 0] from HR.out) hbu (by omega))
          replace HM := Lib.hid (U32.but (show U32 X3.drew g 84 ws from HM.out) hbu (by have := HGP.out; omega))
          replace HRW := Lib.hid (U8.but (show U8 X3.drew r 86 (rowZ k) from HRW.out) hbu (by have := HRP.out; omega))
          replace HB := Lib.hid (HB.out.trans (undrew (But.below (B := p) hbu (by omega) (by have := HB.out.size; show p ≤ X3.heap.size; omega))))
          clear hv hbu HVD
          go_wp2_with (fail)
          obtain ⟨n8, E8⟩ : ∃ n, rowV k 8 = n := ⟨_, rfl⟩
          obtain ⟨n9, E9⟩ : ∃ n, rowV k 9 = n := ⟨_, rfl⟩
          have b8 : n8 < 16 := E8 ▸ rowV_lt k 8 G1.out (by omega)
          have b9 : n9 < 16 := E9 ▸ rowV_lt k 9 G1.out (by omega)
          have i8 : (n8 : Int) < 16 := by omega
          have i9 : (n9 : Int) < 16 := by omega
          have r8 := HRW.out.at_at (k := 8) (z := (n8 : Int)) (by rw [rowZ_len]; omega) (by rw [rowZ_at _ _ (by omega), E8])
          have r9 := HRW.out.at_at (k := 9) (z := (n9 : Int)) (by rw [rowZ_len]; omega) (by rw [rowZ_at _ _ (by omega), E9])
          have m8 := HM.out.cell n8 (by rw [LWS.out]; exact b8)
          have m9 := HM.out.cell n9 (by rw [LWS.out]; exact b9)
          have E8' := Lib.hid E8
          have E9' := Lib.hid E9
          clear E8 E9
          obtain ⟨x8, EX8⟩ : ∃ x, at_ ws n8 = x := ⟨_, rfl⟩
          obtain ⟨x9, EX9⟩ : ∃ x, at_ ws n9 = x := ⟨_, rfl⟩
          rw [EX8] at m8
          rw [EX9] at m9
          replace EX8 := Lib.hid EX8
          replace EX9 := Lib.hid EX9
          go_still_tail 8, (by kernel_rfl)
          change wpList _ _ _ _ _ X4.drew
          have HVD := Lib.hid (show U32 X4.drew (p + 1 + 1) 84 y4 from HV.out)
          clear r8 r9 m8 m9 b8 b9 i8 i9
          go_wp2_with (fail)
          refine (mix_any 0 5 10 15 x8 x9 HVD.out LV.out (by omega) (by omega) (by omega) (by omega) (by omega) (by omega) (by omega) (by omega) (by omega) (by omega)).mono ?_
          rintro e X5 ⟨rfl, hv, hbu⟩
          obtain ⟨y5, HY5⟩ : ∃ y, mixL y4 0 5 10 15 x8 x9 = y := ⟨_, rfl⟩
          rw [HY5] at hv
          replace LV : Hid (y5.length = 16) := Lib.hid (by rw [← HY5, mixL_len]; exact LV.out)
          replace HY5 := Lib.hid HY5
          replace HV := Lib.hid hv
          replace HS := Lib.hid (U32.but (show U32 X4.drew p 67 h from HS.out) hbu (by omega))
          replace HR := Lib.hid (U32.but (show U32 X4.drew (p + 1) 67 [0, 0, 0, 0, 0, 0, 0, 0] from HR.out) hbu (by omega))
          replace HM := Lib.hid (U32.but (show U32 X4.drew g 84 ws from HM.out) hbu (by have := HGP.out; omega))
          replace HRW := Lib.hid (U8.but (show U8 X4.drew r 86 (rowZ k) from HRW.out) hbu (by have := HRP.out; omega))
          replace HB := Lib.hid (HB.out.trans (undrew (But.below (B := p) hbu (by omega) (by have := HB.out.size; show p ≤ X4.heap.size; omega))))
          clear hv hbu HVD
          go_wp2_with (fail)
          obtain ⟨n10, E10⟩ : ∃ n, rowV k 10 = n := ⟨_, rfl⟩
          obtain ⟨n11, E11⟩ : ∃ n, rowV k 11 = n := ⟨_, rfl⟩
          have b10 : n10 < 16 := E10 ▸ rowV_lt k 10 G1.out (by omega)
          have b11 : n11 < 16 := E11 ▸ rowV_lt k 11 G1.out (by omega)
          have i10 : (n10 : Int) < 16 := by omega
          have i11 : (n11 : Int) < 16 := by omega
          have r10 := HRW.out.at_at (k := 10) (z := (n10 : Int)) (by rw [rowZ_len]; omega) (by rw [rowZ_at _ _ (by omega), E10])
          have r11 := HRW.out.at_at (k := 11) (z := (n11 : Int)) (by rw [rowZ_len]; omega) (by rw [rowZ_at _ _ (by omega), E11])
          have m10 := HM.out.cell n10 (by rw [LWS.out]; exact b10)
          have m11 := HM.out.cell n11 (by rw [LWS.out]; exact b11)
          have E10' := Lib.hid E10
          have E11' := Lib.hid E11
          clear E10 E11
          obtain ⟨x10, EX10⟩ : ∃ x, at_ ws n10 = x := ⟨_, rfl⟩
          obtain ⟨x11, EX11⟩ : ∃ x, at_ ws n11 = x := ⟨_, rfl⟩
          rw [EX10] at m10
          rw [EX11] at m11
          replace EX10 := Lib.hid EX10
          replace EX11 := Lib.hid EX11
          go_still_tail 8, (by kernel_rfl)
          change wpList _ _ _ _ _ X5.drew
          have HVD := Lib.hid (show U32 X5.drew (p + 1 + 1) 84 y5 from HV.out)
          clear r10 r11 m10 m11 b10 b11 i10 i11
          go_wp2_with (fail)
          refine (mix_any 1 6 11 12 x10 x11 HVD.out LV.out (by omega) (by omega) (by omega) (by omega) (by omega) (by omega) (by omega) (by omega) (by omega) (by omega)).mono ?_
          rintro e X6 ⟨rfl, hv, hbu⟩
          obtain ⟨y6, HY6⟩ : ∃ y, mixL y5 1 6 11 12 x10 x11 = y := ⟨_, rfl⟩
          rw [HY6] at hv
          replace LV : Hid (y6.length = 16) := Lib.hid (by rw [← HY6, mixL_len]; exact LV.out)
          replace HY6 := Lib.hid HY6
          replace HV := Lib.hid hv
          replace HS := Lib.hid (U32.but (show U32 X5.drew p 67 h from HS.out) hbu (by omega))
          replace HR := Lib.hid (U32.but (show U32 X5.drew (p + 1) 67 [0, 0, 0, 0, 0, 0, 0, 0] from HR.out) hbu (by omega))
          replace HM := Lib.hid (U32.but (show U32 X5.drew g 84 ws from HM.out) hbu (by have := HGP.out; omega))
          replace HRW := Lib.hid (U8.but (show U8 X5.drew r 86 (rowZ k) from HRW.out) hbu (by have := HRP.out; omega))
          replace HB := Lib.hid (HB.out.trans (undrew (But.below (B := p) hbu (by omega) (by have := HB.out.size; show p ≤ X5.heap.size; omega))))
          clear hv hbu HVD
          go_wp2_with (fail)
          obtain ⟨n12, E12⟩ : ∃ n, rowV k 12 = n := ⟨_, rfl⟩
          obtain ⟨n13, E13⟩ : ∃ n, rowV k 13 = n := ⟨_, rfl⟩
          have b12 : n12 < 16 := E12 ▸ rowV_lt k 12 G1.out (by omega)
          have b13 : n13 < 16 := E13 ▸ rowV_lt k 13 G1.out (by omega)
          have i12 : (n12 : Int) < 16 := by omega
          have i13 : (n13 : Int) < 16 := by omega
          have r12 := HRW.out.at_at (k := 12) (z := (n12 : Int)) (by rw [rowZ_len]; omega) (by rw [rowZ_at _ _ (by omega), E12])
          have r13 := HRW.out.at_at (k := 13) (z := (n13 : Int)) (by rw [rowZ_len]; omega) (by rw [rowZ_at _ _ (by omega), E13])
          have m12 := HM.out.cell n12 (by rw [LWS.out]; exact b12)
          have m13 := HM.out.cell n13 (by rw [LWS.out]; exact b13)
          have E12' := Lib.hid E12
          have E13' := Lib.hid E13
          clear E12 E13
          obtain ⟨x12, EX12⟩ : ∃ x, at_ ws n12 = x := ⟨_, rfl⟩
          obtain ⟨x13, EX13⟩ : ∃ x, at_ ws n13 = x := ⟨_, rfl⟩
          rw [EX12] at m12
          rw [EX13] at m13
          replace EX12 := Lib.hid EX12
          replace EX13 := Lib.hid EX13
          go_still_tail 8, (by kernel_rfl)
          change wpList _ _ _ _ _ X6.drew
          have HVD := Lib.hid (show U32 X6.drew (p + 1 + 1) 84 y6 from HV.out)
          clear r12 r13 m12 m13 b12 b13 i12 i13
          go_wp2_with (fail)
          refine (mix_any 2 7 8 13 x12 x13 HVD.out LV.out (by omega) (by omega) (by omega) (by omega) (by omega) (by omega) (by omega) (by omega) (by omega) (by omega)).mono ?_
          rintro e X7 ⟨rfl, hv, hbu⟩
          obtain ⟨y7, HY7⟩ : ∃ y, mixL y6 2 7 8 13 x12 x13 = y := ⟨_, rfl⟩
          rw [HY7] at hv
          replace LV : Hid (y7.length = 16) := Lib.hid (by rw [← HY7, mixL_len]; exact LV.out)
          replace HY7 := Lib.hid HY7
          replace HV := Lib.hid hv
          replace HS := Lib.hid (U32.but (show U32 X6.drew p 67 h from HS.out) hbu (by omega))
          replace HR := Lib.hid (U32.but (show U32 X6.drew (p + 1) 67 [0, 0, 0, 0, 0, 0, 0, 0] from HR.out) hbu (by omega))
          replace HM := Lib.hid (U32.but (show U32 X6.drew g 84 ws from HM.out) hbu (by have := HGP.out; omega))
          replace HRW := Lib.hid (U8.but (show U8 X6.drew r 86 (rowZ k) from HRW.out) hbu (by have := HRP.out; omega))
          replace HB := Lib.hid (HB.out.trans (undrew (But.below (B := p) hbu (by omega) (by have := HB.out.size; show p ≤ X6.heap.size; omega))))
          clear hv hbu HVD
          go_wp2_with (fail)
          obtain ⟨n14, E14⟩ : ∃ n, rowV k 14 = n := ⟨_, rfl⟩
          obtain ⟨n15, E15⟩ : ∃ n, rowV k 15 = n := ⟨_, rfl⟩
          have b14 : n14 < 16 := E14 ▸ rowV_lt k 14 G1.out (by omega)
          have b15 : n15 < 16 := E15 ▸ rowV_lt k 15 G1.out (by omega)
          have i14 : (n14 : Int) < 16 := by omega
          have i15 : (n15 : Int) < 16 := by omega
          have r14 := HRW.out.at_at (k := 14) (z := (n14 : Int)) (by rw [rowZ_len]; omega) (by rw [rowZ_at _ _ (by omega), E14])
          have r15 := HRW.out.at_at (k := 15) (z := (n15 : Int)) (by rw [rowZ_len]; omega) (by rw [rowZ_at _ _ (by omega), E15])
          have m14 := HM.out.cell n14 (by rw [LWS.out]; exact b14)
          have m15 := HM.out.cell n15 (by rw [LWS.out]; exact b15)
          have E14' := Lib.hid E14
          have E15' := Lib.hid E15
          clear E14 E15
          obtain ⟨x14, EX14⟩ : ∃ x, at_ ws n14 = x := ⟨_, rfl⟩
          obtain ⟨x15, EX15⟩ : ∃ x, at_ ws n15 = x := ⟨_, rfl⟩
          rw [EX14] at m14
          rw [EX15] at m15
          replace EX14 := Lib.hid EX14
          replace EX15 := Lib.hid EX15
          go_still_tail 8, (by kernel_rfl)
          change wpList _ _ _ _ _ X7.drew
          have HVD := Lib.hid (show U32 X7.drew (p + 1 + 1) 84 y7 from HV.out)
          clear r14 r15 m14 m15 b14 b15 i14 i15
          go_wp2_with (fail)
          refine (mix_any 3 4 9 14 x14 x15 HVD.out LV.out (by omega) (by omega) (by omega) (by omega) (by omega) (by omega) (by omega) (by omega) (by omega) (by omega)).mono ?_
          rintro e X8 ⟨rfl, hv, hbu⟩
          obtain ⟨y8, HY8⟩ : ∃ y, mixL y7 3 4 9 14 x14 x15 = y := ⟨_, rfl⟩
          rw [HY8] at hv
          replace LV : Hid (y8.length = 16) := Lib.hid (by rw [← HY8, mixL_len]; exact LV.out)
          replace HY8 := Lib.hid HY8
          replace HV := Lib.hid hv
          replace HS := Lib.hid (U32.but (show U32 X7.drew p 67 h from HS.out) hbu (by omega))
          replace HR := Lib.hid (U32.but (show U32 X7.drew (p + 1) 67 [0, 0, 0, 0, 0, 0, 0, 0] from HR.out) hbu (by omega))
          replace HM := Lib.hid (U32.but (show U32 X7.drew g 84 ws from HM.out) hbu (by have := HGP.out; omega))
          replace HRW := Lib.hid (U8.but (show U8 X7.drew r 86 (rowZ k) from HRW.out) hbu (by have := HRP.out; omega))
          replace HB := Lib.hid (HB.out.trans (undrew (But.below (B := p) hbu (by omega) (by have := HB.out.size; show p ≤ X7.heap.size; omega))))
          clear hv hbu HVD
          go_wp2_with (fail)
          have HFIN : roundsL ws v0 (k + 1) = y8 := by
            rw [HSU.out, sx8, sx7, sx6, sx5, sx4, sx3, sx2, sx1]
            rw [E0'.out, E1'.out, E2'.out, E3'.out, E4'.out, E5'.out, E6'.out, E7'.out, E8'.out, E9'.out, E10'.out, E11'.out, E12'.out, E13'.out, E14'.out, E15'.out, EX0.out, EX1.out, EX2.out, EX3.out, EX4.out, EX5.out, EX6.out, EX7.out, EX8.out, EX9.out, EX10.out, EX11.out, EX12.out, EX13.out, EX14.out, EX15.out]
            show mixL (mixL (mixL (mixL (mixL (mixL (mixL (mixL y0 _ _ _ _ _ _) _ _ _ _ _ _) _ _ _ _ _ _) _ _ _ _ _ _) _ _ _ _ _ _) _ _ _ _ _ _) _ _ _ _ _ _) _ _ _ _ _ _ = y8
            rw [HY1.out, HY2.out, HY3.out, HY4.out, HY5.out, HY6.out, HY7.out, HY8.out]
          go_roundw
          case rel => exact ⟨k + 1, by have := G1.out; omega, by go_num, by rw [HFIN]; exact HV, HS, HR, HM, HB⟩
          case measure => have := G1.out; simp [intOf]; omega
        · obtain rfl : k = 10 := by omega
          have LV : Hid ((roundsL ws v0 10).length = 16) := Lib.hid (by rw [roundsL_len]; exact LV0.out)
          have HCO : Hid (comprL h (wordsL ds) t mark = outL h (roundsL ws v0 10)) := Lib.hid (by rw [← HWS.out, ← HV0.out]; rfl)
          generalize roundsL ws v0 10 = V at *
          clear hm HC
          rw [show ((10 : Nat) : Int) = (10 : Int) from rfl]
          go_wp2_with (fail)
          go_loopw [15, 126] (fun _ i wr => ∃ j : Nat, j ≤ 8 ∧ i = .int .i64 j ∧ Hid (U32 wr p 67 (outTo h V j)) ∧ Hid (U32 wr (p + 1) 67 [0, 0, 0, 0, 0, 0, 0, 0]) ∧ Hid (U32 wr (p + 1 + 1) 84 V) ∧ Hid (Below p w wr)) (fun _ i _ => 8 - (intOf i).toNat)
          case atStart => exact ⟨0, Nat.zero_le _, rfl, by rw [outTo_zero V H8.out]; exact hs, hr, hv, hb⟩
          case round =>
            obtain ⟨j, hj, rfl, hs, hr, hv, hb⟩ := hrel
            by_cases g2 : j < 8
            · have gJ : (j : Int) < 8 := by omega
              have c0 := hs.out.at_at (k := j) (z := at_ h j) (by rw [outTo_len]; exact g2) (outTo_at h V j g2)
              have f0 := hs.out.free j
              have c1 := hv.out.cell j (by rw [LV.out]; omega)
              have c2 := hv.out.cell (8 + j) (by rw [LV.out]; omega)
              have HX := Lib.hid (show U32 ((wr.setCell ⟨p, j, none⟩ (.int .u32 (bits .xor .u32 (at_ h j) (bits .xor .u32 (at_ V j) (at_ V (8 + j)))))).drew) p 67 (outTo h V (j + 1)) by rw [← outTo_set]; exact hs.out.set_ j _)
              have HR := Lib.hid (show U32 ((wr.setCell ⟨p, j, none⟩ (.int .u32 (bits .xor .u32 (at_ h j) (bits .xor .u32 (at_ V j) (at_ V (8 + j)))))).drew) (p + 1) 67 _ from hr.out.far (by show p + 1 ≠ p; omega) _)
              have HVV := Lib.hid (show U32 ((wr.setCell ⟨p, j, none⟩ (.int .u32 (bits .xor .u32 (at_ h j) (bits .xor .u32 (at_ V j) (at_ V (8 + j)))))).drew) (p + 1 + 1) 84 V from hv.out.far (by show p + 1 + 1 ≠ p; omega) _)
              have HB := Lib.hid (show Below p w ((wr.setCell ⟨p, j, none⟩ (.int .u32 (bits .xor .u32 (at_ h j) (bits .xor .u32 (at_ V j) (at_ V (8 + j)))))).drew) from (hb.out.setCell (Nat.le_refl _) _).drew)
              clear hs hr hv hb
              go_wp2_with (fail)
              go_region
              go_wp2_with (fail)
              go_roundw
              case rel => exact ⟨j + 1, by omega, by go_num, HX, HR, HVV, HB⟩
              case measure => simp [intOf]; omega
            · obtain rfl : j = 8 := by omega
              rw [outTo_all] at hs
              have L8 : (outL h V).length = 8 := by simp [outL]
              have HB := Lib.hid (below_setRow (g := p + 1) (cs := u32s (outL h V)) hb.out (by omega))
              go_wp2_with (first | (refine ld8 rfl _ rfl _ rfl _ hs.out L8 ?_) | (refine st8 rfl _ _ rfl _ rfl _ _ rfl hr.out L8 rfl ?_))
              exact bodyPost_ret (res_8 rfl _ _ (p + 1) _ rfl hr.out.setRow L8) rfl ⟨by rw [HCO.out], by rw [hp]; exact HB.out⟩
end Go.Proofs.YtdjfklllfbenjaaDoor
