/- Package seal: the key stream, its first bytes. -/
import Derived.Test.YtdjfklllfbenjaaDoorEc
namespace Go.Proofs.YtdjfklllfbenjaaDoor
open Go.RowKit

def strS : ByteArray := ⟨#[115, 116, 114, 101, 97, 109]⟩
theorem strS_nums : numsOf strS = strL := by decide
theorem Own.take_part {w : World} {g n c q : Nat} {ds : List Int} (h : PartAt w w.heap.size (.slice (some ⟨g, 0, none⟩) n c) ds) (hn : ds.length = n) (hq : q ≤ n) : PartAt w w.heap.size (.slice (some ⟨g, 0, none⟩) q c) (ds.take q) := by
  obtain ⟨A, c', e, hle, hA⟩ := h
  have hl : (ds.take q).length = q := by rw [List.length_take]; omega
  simp at e
  obtain ⟨e1, e2, e3⟩ := e
  subst e1 e3
  refine ⟨_, c, by rw [hl], by rw [hl]; omega, fun h0 => ?_⟩
  rw [hl] at h0
  obtain ⟨b, o, e4, h1, h2, h3⟩ := hA (by omega)
  refine ⟨b, o, e4, h1, h2, fun k hk => ?_⟩
  rw [hl] at hk
  rw [h3 k (by omega)]
  simp [at_, hk]
set_option maxRecDepth 100000 in
set_option maxHeartbeats 4000000 in
theorem stream_any (A B : Option Addr) (c cb n : Nat) (kd nd : List Int) (w : World) (hkl : kd.length = 32) (hk : PartAt w w.heap.size (.slice A 32 c) kd) (hnl : nd.length = 16) (hb : PartAt w w.heap.size (.slice B 16 cb) nd) (hn : n ≤ 65504) (htab : Tabs w) :
    Calls Tryd.prog 45 #[.slice A 32 c, .slice B 16 cb, .int .i64 n] w fun e w' => (∃ v, e = .returned v ∧ Own w' w.heap.size v (streamL kd nd n)) ∧ Below w.heap.size w w' := by
  have HC := Lib.hid (derived_any A 32 c kd strS w hkl (by omega) (by omega) hk (by decide) htab)
  rw [strS_nums] at HC
  have HB := Lib.hid hb
  have HT := Lib.hid htab
  have HNL := Lib.hid hnl
  have HP : Hid (2 ≤ w.heap.size) := Lib.hid htab.lt
  clear hk hkl hnl hb htab
  go_enter Tryd.func45, Tryd.ntmps45
  go_wp2_with (fail)
  refine HC.out.mono ?_
  rintro e w1 ⟨⟨g1, rfl, h1⟩, b1⟩
  have HK1 := Lib.hid h1
  have B1 := Lib.hid b1
  have HB1 := Lib.hid (HB.out.later b1 b1.size)
  have HT1 := Lib.hid (HT.out.below b1 HP.out)
  have HP1 : Hid (2 ≤ w1.heap.size) := Lib.hid (Nat.le_trans HP.out b1.size)
  clear h1 b1 HC HB HT
  go_upto_region 3 with (refine makeB0 rfl _ _ _ rfl Tryd.underlying22 n _ rfl rfl rfl (by omega) ?_; intro w2 o2 b2 s2)
  have O2 : Hid (Own w2 w1.heap.size (.slice (some ⟨w1.heap.size, 0, none⟩) 0 n) ((strm kd nd 0).take n)) := Lib.hid (by simpa [strm_zero] using o2)
  have B2 := Lib.hid b2
  clear o2 b2 s2
  go_wp2_with (fail)
  go_loopw [8, 9] (fun v i wx => ∃ j : Nat, 32 * j < n + 32 ∧ i = .int .u64 (j : Int) ∧ Hid (Own wx w1.heap.size v ((strm kd nd j).take n)) ∧ Hid (Below w1.heap.size w1 wx)) (fun v _ _ => n - lenW v)
  case atStart => exact ⟨0, by omega, rfl, O2, B2⟩
  case round =>
    obtain ⟨j, hj, rfl, ho, hbl⟩ := hrel
    clear O2 B2
    obtain ⟨A1, c1, rfl, -⟩ := ho.out.shape
    have hsz : w1.heap.size ≤ wr.heap.size := hbl.out.size
    by_cases g : 32 * j < n
    · have L1 := strm_below kd nd n j g
      obtain ⟨z, hz⟩ : ∃ z, 32 * j = z := ⟨_, rfl⟩
      rw [hz] at L1 g
      rw [L1]
      rw [L1] at ho
      have HL := Lib.hid L1
      have gI : (z : Int) < n := by omega
      have HS := Lib.hid (strm_step kd nd n j (by omega))
      rw [hz] at HS
      have HZ := Lib.hid hz
      clear L1 hz
      obtain ⟨q, hq⟩ : ∃ q, min 32 (n - z) = q := ⟨_, rfl⟩
      rw [hq] at HS
      have HQ : Hid (q ≤ 32 ∧ q ≤ n - z ∧ (32 < n - z ∨ q = n - z) ∧ (n - z < 32 ∨ q = 32) ∧ 0 < q) := Lib.hid (by omega)
      clear hq
      have HBr := Lib.hid (HB1.out.later hbl.out hsz)
      have HTr := Lib.hid (HT1.out.below hbl.out HP1.out)
      have HKr := Lib.hid (HK1.out.later hbl.out hsz)
      go_wp2_with (fail)
      refine (counted_any B 16 cb j nd wr HNL.out (by omega) (by omega) HBr.out (by omega)).mono ?_
      rintro e w3 ⟨⟨v3, rfl, o3⟩, b3⟩
      have l3 : (nd ++ be8 j).length = 24 := by rw [List.length_append, HNL.out, be8_len]
      obtain ⟨A3, c3, rfl, -⟩ := o3.shape
      rw [l3] at o3 ⊢
      have HO3 := Lib.hid (ho.out.below b3)
      have HBL3 := Lib.hid (hbl.out.trans (b3.mono hsz))
      have HS3 : Hid (w1.heap.size ≤ w3.heap.size) := Lib.hid (Nat.le_trans hsz b3.size)
      have HC3 := Lib.hid (skeyed_any (some ⟨g1, 0, none⟩) A3 32 32 24 c3 (hashB kd strL) (nd ++ be8 j) w3 (hashB_len _ _) (by omega) (by omega) (HKr.out.later b3 b3.size) o3.part (by omega) (HTr.out.below b3 (Nat.le_trans HP1.out hsz)))
      clear o3 b3 l3 ho hbl hsz HBr HKr HTr
      go_wp2_with (fail)
      refine HC3.out.mono ?_
      rintro e w4 ⟨⟨g4, rfl, h4⟩, b4⟩
      have HO4 := Lib.hid (HO3.out.below b4)
      have HBL4 := Lib.hid (HBL3.out.trans (b4.mono HS3.out))
      have HS4 : Hid (w1.heap.size ≤ w4.heap.size) := Lib.hid (Nat.le_trans HS3.out b4.size)
      have HP4 := Lib.hid (Own.take_part h4 (hashB_len _ _) HQ.out.1)
      clear h4 b4 HO3 HBL3 HC3 HS3
      by_cases g2 : 32 ≤ n - z
      · have gM : (32 : Int) ≤ (n : Int) - z := by omega
        obtain rfl : q = 32 := by have := HQ.out; omega
        go_wp2_with (at_builtin; refine appBs rfl _ _ _ rfl Tryd.underlying22 rfl HO4.out HBL4.out HS4.out (some ⟨g4, 0, none⟩) 32 32 w4.heap.size ((blk kd nd j).take 32) rfl (fun e => by cases e) HP4.out (by rw [List.length_take, blk_len]; rfl) (by rw [HL.out]; omega) ?_; intro v5 w5 h5 b5 k5)
        rw [HS.out] at h5
        have HO5 := Lib.hid h5
        have HB5 := Lib.hid b5
        have hm : lenW v5 = min (32 * (j + 1)) n := by
          obtain ⟨A5, c5, e5, -⟩ := h5.shape
          rw [e5]
          show ((strm kd nd (j + 1)).take n).length = _
          rw [List.length_take, strm_len, Nat.min_comm]
        have HZ5 := Lib.hid hm
        clear h5 b5 k5 HO4 HBL4 HS4 HP4 hm
        go_wp2_with (fail)
        go_roundw
        case rel => exact ⟨j + 1, by have := HZ.out; omega, by go_num, HO5, HB5⟩
        case measure => rw [HZ5.out]; show n - min (32 * (j + 1)) n < n - z; have := HZ.out; omega
      · have gM : ¬ (32 : Int) ≤ (n : Int) - z := by omega
        have gN : (n : Int) - z < 32 := by omega
        have hq2 : (n : Int) - z = (q : Int) := by have := HQ.out; omega
        have gQ : (q : Int) < 32 := by omega
        have gQ2 : (q : Int) ≤ 32 := by omega
        go_wp2_with (at_builtin; refine appBs rfl _ _ _ rfl Tryd.underlying22 rfl HO4.out HBL4.out HS4.out (some ⟨g4, 0, none⟩) q 32 w4.heap.size ((blk kd nd j).take q) rfl (fun e => by cases e) HP4.out (by rw [List.length_take, blk_len]; omega) (by rw [HL.out]; omega) ?_; intro v5 w5 h5 b5 k5)
        rw [HS.out] at h5
        have HO5 := Lib.hid h5
        have HB5 := Lib.hid b5
        have hm : lenW v5 = n := by
          obtain ⟨A5, c5, e5, -⟩ := h5.shape
          rw [e5]
          show ((strm kd nd (j + 1)).take n).length = _
          rw [List.length_take, strm_len]
          have := HZ.out
          omega
        have HZ5 := Lib.hid hm
        clear h5 b5 k5 HO4 HBL4 HS4 HP4 hm hq2 gM gN gQ gQ2
        go_wp2_with (fail)
        go_roundw
        case rel => exact ⟨j + 1, by have := HZ.out; omega, by go_num, HO5, HB5⟩
        case measure => rw [HZ5.out]; show n - n < n - z; omega
    · have L1 := strm_whole kd nd n j (by omega)
      rw [L1]
      rw [L1] at ho
      have HO : Hid (Own wr w1.heap.size (.slice A1 n c1) (streamL kd nd n)) := Lib.hid (by rw [← strm_enough kd nd n j (by omega)]; exact ho.out)
      have HBL := Lib.hid (B1.out.trans (hbl.out.mono B1.out.size))
      have HLE := Lib.hid B1.out.size
      clear ho hbl L1 hsz
      go_wp2_with (fail)
      go_ret
      exact ⟨⟨_, rfl, HO.out.less HLE.out⟩, HBL.out⟩
end Go.Proofs.YtdjfklllfbenjaaDoor
