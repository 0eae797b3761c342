/- The reference: Derive, Tag, Stream. -/
import Derived.Test.YtdjfklllfbenjaaDoorEi
import Derived.Test.YtdjfklllfbenjaaDoorBr5
namespace Go.Proofs.YtdjfklllfbenjaaDoor
open Go.RowKit

theorem Own.take_ {w : World} {B g n c q : Nat} {ds : List Int} (h : Own w B (.slice (some ⟨g, 0, none⟩) n c) ds) (hq : q ≤ n) : Own w B (.slice (some ⟨g, 0, none⟩) q c) (ds.take q) := by
  have hn := h.len_eq
  have hl : (ds.take q).length = q := by rw [List.length_take]; omega
  refine ⟨by rw [List.length_map, hl]; simp, ?_⟩
  rcases h.2 with ⟨e, _⟩ | ⟨g', cap, cur, e, hb, hg, hnc, hm, hs, ht⟩
  · simp at e
  · simp at e
    obtain ⟨rfl, e2, rfl⟩ := e
    refine .inr ⟨g, c, cur, by rw [hl], hb, hg, by rw [hl]; omega, hm, hs, ?_⟩
    rw [hl, List.map_take, ← ht, Nat.mul_one, Nat.mul_one, List.take_take, Nat.min_eq_left (by omega)]
theorem Own.shape2 {w : World} {B : Nat} {v : Value} {ds : List Int} (h : Own w B v ds) : (v = .slice none 0 0 ∧ ds = []) ∨ ∃ g c, v = .slice (some ⟨g, 0, none⟩) ds.length c := by
  rcases h.2 with ⟨rfl, h0⟩ | ⟨g', cap, cur, rfl, _⟩
  · exact .inl ⟨rfl, List.eq_nil_of_length_eq_zero h0⟩
  · exact .inr ⟨g', cap, rfl⟩
set_option maxRecDepth 100000 in
set_option maxHeartbeats 2000000 in
theorem rderive_any (A : Option Addr) (n c : Nat) (kd : List Int) (s : ByteArray) (w : World) (hn : kd.length = n) (h32 : n ≤ 32) (hk : PartAt w w.heap.size (.slice A n c) kd) (hA : A = none → c = 0) (hs : s.size < 1000000000) :
    Calls Tryd.prog 26 #[.slice A n c, .string s] w fun e w' => (∃ g c', e = .returned (.slice (some ⟨g, 0, none⟩) 32 c') ∧ Own w' w.heap.size (.slice (some ⟨g, 0, none⟩) 32 c') (hashB kd (numsOf s))) ∧ Below w.heap.size w w' := by
  obtain ⟨W', cc, hcv, hb, hp⟩ := conv_str w s
  have HC := Lib.hid (rhash_any A (some ⟨w.heap.size, 0, none⟩) n c s.size cc kd (numsOf s) W' hn h32 (hk.later hb hb.size) hp (numsOf_len s) hs hA (fun e => by cases e))
  have HB := Lib.hid hb
  clear hn hk hb hp hs h32 hA
  go_enter Tryd.func26, Tryd.ntmps26
  go_wp2_with (fail)
  refine HC.out.mono ?_
  rintro e w2 ⟨⟨v, rfl, h3⟩, h2⟩
  obtain ⟨g, c', rfl⟩ := h3.shape1 (by rw [hashB_len]; omega)
  rw [hashB_len] at h3 ⊢
  have H3 := Lib.hid (Own.less h3 HB.out.size)
  have H2 := Lib.hid (HB.out.trans (h2.mono HB.out.size))
  clear h3 h2 HC HB hcv
  go_wp2_with (fail)
  go_ret
  exact ⟨⟨g, c', rfl, H3.out⟩, H2.out⟩
set_option maxRecDepth 100000 in
set_option maxHeartbeats 2000000 in
theorem rtag_any (A D : Option Addr) (n c m cd : Nat) (kd td : List Int) (w : World) (hkl : kd.length = n) (hn : n ≤ 32) (hA : A = none → c = 0) (hk : PartAt w w.heap.size (.slice A n c) kd) (hD : D = none → cd = 0) (hd : PartAt w w.heap.size (.slice D m cd) td) (hdl : td.length = m) (hm : m < 1000000000) :
    Calls Tryd.prog 35 #[.slice A n c, .slice D m cd] w fun e w' => (∃ g c', e = .returned (.slice (some ⟨g, 0, none⟩) 16 c') ∧ Own w' w.heap.size (.slice (some ⟨g, 0, none⟩) 16 c') (tagL kd td)) ∧ Below w.heap.size w w' := by
  have HC := Lib.hid (rderive_any A n c kd tagS w hkl hn hk hA (by decide))
  rw [tagS_nums] at HC
  have HD := Lib.hid hd
  have HDL := Lib.hid hdl
  have HDD := Lib.hid hD
  clear hk hkl hd hdl hD hA
  go_enter Tryd.func35, Tryd.ntmps35
  go_wp2_with (fail)
  refine HC.out.mono ?_
  rintro e w1 ⟨⟨g1, c1, rfl, h1⟩, b1⟩
  have HC2 := Lib.hid (rhash_any (some ⟨g1, 0, none⟩) D 32 c1 m cd (hashB kd tagLb) td w1 (hashB_len _ _) (by omega) h1.part (HD.out.later b1 b1.size) HDL.out hm (fun e => by cases e) HDD.out)
  have B1 := Lib.hid b1
  clear h1 b1 HC HD
  go_wp2_with (fail)
  refine HC2.out.mono ?_
  rintro e w2 ⟨⟨v, rfl, h2⟩, b2⟩
  obtain ⟨g2, c2, rfl⟩ := h2.shape1 (by rw [hashB_len]; omega)
  rw [hashB_len] at h2 ⊢
  have hc := h2.cap_
  have H2 := Lib.hid (Own.less (Own.take_ h2 (show 16 ≤ 32 by omega)) B1.out.size)
  have B2 := Lib.hid (B1.out.trans (b2.mono B1.out.size))
  have q1 : 16 ≤ c2 := by omega
  have q2 : (16 : Int) ≤ c2 := by omega
  clear h2 b2 B1 HC2 hc
  go_wp2_with (fail)
  go_ret
  exact ⟨⟨g2, c2, rfl, H2.out⟩, B2.out⟩
set_option maxRecDepth 100000 in
set_option maxHeartbeats 8000000 in
theorem rstream_any (A B : Option Addr) (n0 c m cb n : Nat) (kd nd : List Int) (w : World) (hkl : kd.length = n0) (hn0 : n0 ≤ 32) (hA : A = none → c = 0) (hk : PartAt w w.heap.size (.slice A n0 c) kd) (hnl : nd.length = m) (hm : m < 1000) (hB : B = none → cb = 0) (hb : PartAt w w.heap.size (.slice B m cb) nd) (hn : n ≤ 65504) :
    Calls Tryd.prog 28 #[.slice A n0 c, .slice B m cb, .int .i64 n] w fun e w' => (∃ v, e = .returned v ∧ Own w' w.heap.size v (streamL kd nd n)) ∧ Below w.heap.size w w' := by
  have HC := Lib.hid (rderive_any A n0 c kd strS w hkl hn0 hk hA (by decide))
  rw [strS_nums] at HC
  have HB := Lib.hid hb
  have HNL := Lib.hid hnl
  have HBB := Lib.hid hB
  clear hk hkl hnl hb hA hB
  go_enter Tryd.func28, Tryd.ntmps28
  go_wp2_with (fail)
  refine HC.out.mono ?_
  rintro e w1 ⟨⟨g1, cg, rfl, h1⟩, b1⟩
  have HK1 := Lib.hid h1.part
  have B1 := Lib.hid b1
  have HB1 := Lib.hid (HB.out.later b1 b1.size)
  have O1 : Hid (Own w1 w1.heap.size (.slice none 0 0) ((strm kd nd 0))) := Lib.hid (Own.nil_ _ _)
  clear h1 b1 HC HB
  go_wp2_with (fail)
  go_loopw [7, 9] (fun v i wx => ∃ j : Nat, 32 * j < n + 32 ∧ i = .int .i64 (j : Int) ∧ Hid (Own wx w1.heap.size v (strm kd nd j)) ∧ Hid (Below w1.heap.size w1 wx)) (fun v _ _ => n - lenW v)
  case atStart => exact ⟨0, by omega, rfl, O1, Lib.hid (Below.refl _ _)⟩
  case round =>
    obtain ⟨j, hj, rfl, ho, hbl⟩ := hrel
    clear O1
    generalize wr = wo at *
    obtain ⟨A1, c1, rfl, hA1⟩ := ho.out.shape
    rw [strm_len] at ho ⊢
    obtain ⟨z, hz⟩ : ∃ z, 32 * j = z := ⟨_, rfl⟩
    rw [hz] at ho ⊢
    have HZ := Lib.hid hz
    have hsz : w1.heap.size ≤ wo.heap.size := hbl.out.size
    by_cases g : z < n
    · have gI : (z : Int) < n := by omega
      have hj2 : j < 10000 := by omega
      have HBr := Lib.hid (HB1.out.later hbl.out hsz)
      have HKr := Lib.hid (HK1.out.later hbl.out hsz)
      have OE : Hid (Own (wo.alloc (.cells #[] 5)) wo.heap.size (.slice (some ⟨wo.heap.size, 0, none⟩) 0 0) []) := Lib.hid (Own.new0 wo)
      have BE : Hid (Below wo.heap.size wo (wo.alloc (.cells #[] 5))) := Lib.hid (Below.new wo _)
      have PB := Lib.hid (HBr.out.later BE.out BE.out.size)
      clear hz hA1
      go_wp2_with (at_builtin; refine appBs rfl _ _ _ rfl Tryd.underlying22 rfl OE.out BE.out BE.out.size B m cb (wo.alloc (.cells #[] 5)).heap.size nd rfl HBB.out PB.out HNL.out (by simp; omega) ?_; intro v2 w2 o2 b2 k2)
      rw [List.nil_append] at o2
      have O2 : Hid (Own w2 wo.heap.size v2 (nd ++ (List.range 0).map (beAt j))) := Lib.hid (by simpa using o2)
      have B2 := Lib.hid b2
      clear o2 b2 k2 OE BE PB
      go_wp2_with (fail)
      go_loopw [10, 11] (fun v s wx => ∃ i : Nat, i ≤ 8 ∧ s = .int .i64 (56 - 8 * (i : Int)) ∧ Hid (Own wx wo.heap.size v (nd ++ (List.range i).map (beAt j))) ∧ Hid (Below wo.heap.size wo wx)) (fun _ s _ => (intOf s + 8).toNat)
      case atStart => exact ⟨0, by omega, rfl, O2, B2⟩
      case round =>
        obtain ⟨i, hi, rfl, ho2, hbl2⟩ := hrel
        clear O2 B2
        obtain ⟨A2, c2, rfl, -⟩ := ho2.out.shape
        have L2 : (nd ++ (List.range i).map (beAt j)).length = m + i := by rw [List.length_append, HNL.out]; simp
        rw [L2] at ho2 ⊢
        have HL2 := Lib.hid L2
        have hsz2 : wo.heap.size ≤ wr.heap.size := hbl2.out.size
        have HOA : Hid (∀ y, Own (wr.alloc (.cells #[.int .u8 y] 5)) wo.heap.size (.slice A2 (m + i) c2) (nd ++ (List.range i).map (beAt j))) := Lib.hid fun y => ho2.out.keep (fun g hg => Below.heap_alloc wr (.cells #[.int .u8 y] 5) g hg)
        have HBA : Hid (∀ y, Below wo.heap.size wo (wr.alloc (.cells #[.int .u8 y] 5))) := Lib.hid fun y => hbl2.out.alloc hsz2 (.cells #[.int .u8 y] 5)
        clear L2
        rcases (by omega : i = 8 ∨ i = 0 ∨ i = 1 ∨ i = 2 ∨ i = 3 ∨ i = 4 ∨ i = 5 ∨ i = 6 ∨ i = 7) with rfl | rfl | rfl | rfl | rfl | rfl | rfl | rfl | rfl
        · have P2 : Hid (PartAt wr wr.heap.size (.slice A2 (m + 8) c2) (nd ++ be8 j)) := Lib.hid ho2.out.part
          have HA2 : Hid (A2 = none → c2 = 0) := Lib.hid (ho2.out.part.some_ (by rw [HL2.out]; omega))
          have O1 := Lib.hid (ho.out.below hbl2.out)
          have B1' := Lib.hid (hbl.out.trans (hbl2.out.mono hsz))
          have S1 := Lib.hid B1'.out.size
          have HC2 := Lib.hid (rhash_any (some ⟨g1, 0, none⟩) A2 32 cg (m + 8) c2 (hashB kd strL) (nd ++ be8 j) wr (hashB_len _ _) (by omega) (HKr.out.later hbl2.out hsz2) P2.out (by rw [List.length_append, HNL.out, be8_len]) (by omega) (fun e => by cases e) HA2.out)
          clear ho2 HOA HBA HL2 hsz2 P2 ho hbl hsz HBr HKr hbl2
          go_wp2_with (fail)
          refine HC2.out.mono ?_
          rintro e w5 ⟨⟨v5, rfl, o5⟩, b5⟩
          obtain ⟨g5, c5, rfl⟩ := o5.shape1 (by rw [hashB_len]; omega)
          rw [hashB_len] at o5 ⊢
          have O5 := Lib.hid (O1.out.below b5)
          have B5 := Lib.hid (B1'.out.trans (b5.mono S1.out))
          have S5 := Lib.hid B5.out.size
          have P5 : Hid (PartAt w5 w5.heap.size (.slice (some ⟨g5, 0, none⟩) 32 c5) (blk kd nd j)) := Lib.hid o5.part
          clear o5 b5 O1 B1' S1 HC2
          go_wp2_with (at_builtin; refine appBs rfl _ _ _ rfl Tryd.underlying22 rfl O5.out B5.out S5.out (some ⟨g5, 0, none⟩) 32 c5 w5.heap.size (blk kd nd j) rfl (fun e => by cases e) P5.out (blk_len _ _ _) (by rw [strm_len]; omega) ?_; intro v6 w6 o6 b6 k6)
          rw [← strm_succ] at o6
          have O6 := Lib.hid o6
          have B6 := Lib.hid b6
          have hm6 : lenW v6 = 32 * (j + 1) := by
            obtain ⟨A6, c6, e6, -⟩ := o6.shape
            rw [e6]
            show (strm kd nd (j + 1)).length = _
            rw [strm_len]
          have HM6 := Lib.hid hm6
          clear o6 b6 k6 O5 B5 S5 P5 hm6
          go_wp2_with (fail)
          go_roundw
          case rel => exact ⟨j + 1, by have := HZ.out; omega, by go_num, O6, B6⟩
          case measure => rw [HM6.out]; show n - 32 * (j + 1) < n - z; have := HZ.out; omega
        · have HV : Hid (((j : Int) / 72057594037927936) = beAt j 0) := Lib.hid (by show _ = ((j / 72057594037927936 % 256 : Nat) : Int); omega)
          clear ho2
          go_wp2_with (at_builtin; refine app1 rfl _ _ _ rfl Tryd.underlying22 rfl (HOA.out _) (HBA.out _) ?c1 wr.heap.size ((j : Int) / 72057594037927936) rfl ?c2 ?c3 ?_)
          case c1 => simp; omega
          case c2 => rw [World.cell?_alloc_at _ _ _ _ rfl]; rfl
          case c3 => rw [HL2.out]; omega
          intro x' w3 hown1 hbl1
          rw [HV.out] at hown1
          have HO3 : Hid (Own w3 wo.heap.size x' (nd ++ (List.range 1).map (beAt j))) := Lib.hid hown1
          have HB3 := Lib.hid hbl1
          clear hown1 hbl1 HOA HBA hsz2 hbl2
          go_wp2_with (fail)
          go_roundw
          case rel => exact ⟨1, by omega, by go_num, HO3, HB3⟩
          case measure => simp [intOf]
        · have HV : Hid (((j : Int) / 281474976710656) = beAt j 1) := Lib.hid (by show _ = ((j / 281474976710656 % 256 : Nat) : Int); omega)
          clear ho2
          go_wp2_with (at_builtin; refine app1 rfl _ _ _ rfl Tryd.underlying22 rfl (HOA.out _) (HBA.out _) ?c1 wr.heap.size ((j : Int) / 281474976710656) rfl ?c2 ?c3 ?_)
          case c1 => simp; omega
          case c2 => rw [World.cell?_alloc_at _ _ _ _ rfl]; rfl
          case c3 => rw [HL2.out]; omega
          intro x' w3 hown1 hbl1
          rw [HV.out] at hown1
          have HO3 : Hid (Own w3 wo.heap.size x' (nd ++ (List.range 2).map (beAt j))) := Lib.hid hown1
          have HB3 := Lib.hid hbl1
          clear hown1 hbl1 HOA HBA hsz2 hbl2
          go_wp2_with (fail)
          go_roundw
          case rel => exact ⟨2, by omega, by go_num, HO3, HB3⟩
          case measure => simp [intOf]
        · have HV : Hid (((j : Int) / 1099511627776) = beAt j 2) := Lib.hid (by show _ = ((j / 1099511627776 % 256 : Nat) : Int); omega)
          clear ho2
          go_wp2_with (at_builtin; refine app1 rfl _ _ _ rfl Tryd.underlying22 rfl (HOA.out _) (HBA.out _) ?c1 wr.heap.size ((j : Int) / 1099511627776) rfl ?c2 ?c3 ?_)
          case c1 => simp; omega
          case c2 => rw [World.cell?_alloc_at _ _ _ _ rfl]; rfl
          case c3 => rw [HL2.out]; omega
          intro x' w3 hown1 hbl1
          rw [HV.out] at hown1
          have HO3 : Hid (Own w3 wo.heap.size x' (nd ++ (List.range 3).map (beAt j))) := Lib.hid hown1
          have HB3 := Lib.hid hbl1
          clear hown1 hbl1 HOA HBA hsz2 hbl2
          go_wp2_with (fail)
          go_roundw
          case rel => exact ⟨3, by omega, by go_num, HO3, HB3⟩
          case measure => simp [intOf]
        · have HV : Hid (((j : Int) / 4294967296) = beAt j 3) := Lib.hid (by show _ = ((j / 4294967296 % 256 : Nat) : Int); omega)
          clear ho2
          go_wp2_with (at_builtin; refine app1 rfl _ _ _ rfl Tryd.underlying22 rfl (HOA.out _) (HBA.out _) ?c1 wr.heap.size ((j : Int) / 4294967296) rfl ?c2 ?c3 ?_)
          case c1 => simp; omega
          case c2 => rw [World.cell?_alloc_at _ _ _ _ rfl]; rfl
          case c3 => rw [HL2.out]; omega
          intro x' w3 hown1 hbl1
          rw [HV.out] at hown1
          have HO3 : Hid (Own w3 wo.heap.size x' (nd ++ (List.range 4).map (beAt j))) := Lib.hid hown1
          have HB3 := Lib.hid hbl1
          clear hown1 hbl1 HOA HBA hsz2 hbl2
          go_wp2_with (fail)
          go_roundw
          case rel => exact ⟨4, by omega, by go_num, HO3, HB3⟩
          case measure => simp [intOf]
        · have HV : Hid (((j : Int) / 16777216) = beAt j 4) := Lib.hid (by show _ = ((j / 16777216 % 256 : Nat) : Int); omega)
          clear ho2
          go_wp2_with (at_builtin; refine app1 rfl _ _ _ rfl Tryd.underlying22 rfl (HOA.out _) (HBA.out _) ?c1 wr.heap.size ((j : Int) / 16777216) rfl ?c2 ?c3 ?_)
          case c1 => simp; omega
          case c2 => rw [World.cell?_alloc_at _ _ _ _ rfl]; rfl
          case c3 => rw [HL2.out]; omega
          intro x' w3 hown1 hbl1
          rw [HV.out] at hown1
          have HO3 : Hid (Own w3 wo.heap.size x' (nd ++ (List.range 5).map (beAt j))) := Lib.hid hown1
          have HB3 := Lib.hid hbl1
          clear hown1 hbl1 HOA HBA hsz2 hbl2
          go_wp2_with (fail)
          go_roundw
          case rel => exact ⟨5, by omega, by go_num, HO3, HB3⟩
          case measure => simp [intOf]
        · have HV : Hid (((j : Int) / 65536) = beAt j 5) := Lib.hid (by show _ = ((j / 65536 % 256 : Nat) : Int); omega)
          clear ho2
          go_wp2_with (at_builtin; refine app1 rfl _ _ _ rfl Tryd.underlying22 rfl (HOA.out _) (HBA.out _) ?c1 wr.heap.size ((j : Int) / 65536) rfl ?c2 ?c3 ?_)
          case c1 => simp; omega
          case c2 => rw [World.cell?_alloc_at _ _ _ _ rfl]; rfl
          case c3 => rw [HL2.out]; omega
          intro x' w3 hown1 hbl1
          rw [HV.out] at hown1
          have HO3 : Hid (Own w3 wo.heap.size x' (nd ++ (List.range 6).map (beAt j))) := Lib.hid hown1
          have HB3 := Lib.hid hbl1
          clear hown1 hbl1 HOA HBA hsz2 hbl2
          go_wp2_with (fail)
          go_roundw
          case rel => exact ⟨6, by omega, by go_num, HO3, HB3⟩
          case measure => simp [intOf]
        · have HV : Hid (((j : Int) / 256) = beAt j 6) := Lib.hid (by show _ = ((j / 256 % 256 : Nat) : Int); omega)
          clear ho2
          go_wp2_with (at_builtin; refine app1 rfl _ _ _ rfl Tryd.underlying22 rfl (HOA.out _) (HBA.out _) ?c1 wr.heap.size ((j : Int) / 256) rfl ?c2 ?c3 ?_)
          case c1 => simp; omega
          case c2 => rw [World.cell?_alloc_at _ _ _ _ rfl]; rfl
          case c3 => rw [HL2.out]; omega
          intro x' w3 hown1 hbl1
          rw [HV.out] at hown1
          have HO3 : Hid (Own w3 wo.heap.size x' (nd ++ (List.range 7).map (beAt j))) := Lib.hid hown1
          have HB3 := Lib.hid hbl1
          clear hown1 hbl1 HOA HBA hsz2 hbl2
          go_wp2_with (fail)
          go_roundw
          case rel => exact ⟨7, by omega, by go_num, HO3, HB3⟩
          case measure => simp [intOf]
        · have HV : Hid (((j : Int) % 256) = beAt j 7) := Lib.hid (by show _ = ((j / 1 % 256 : Nat) : Int); omega)
          clear ho2
          go_wp2_with (at_builtin; refine app1 rfl _ _ _ rfl Tryd.underlying22 rfl (HOA.out _) (HBA.out _) ?c1 wr.heap.size ((j : Int) % 256) rfl ?c2 ?c3 ?_)
          case c1 => simp; omega
          case c2 => rw [World.cell?_alloc_at _ _ _ _ rfl]; rfl
          case c3 => rw [HL2.out]; omega
          intro x' w3 hown1 hbl1
          rw [HV.out] at hown1
          have HO3 : Hid (Own w3 wo.heap.size x' (nd ++ (List.range 8).map (beAt j))) := Lib.hid hown1
          have HB3 := Lib.hid hbl1
          clear hown1 hbl1 HOA HBA hsz2 hbl2
          go_wp2_with (fail)
          go_roundw
          case rel => exact ⟨8, by omega, by go_num, HO3, HB3⟩
          case measure => simp [intOf]
    · have gI : ¬ (z : Int) < n := by omega
      have HO : Hid (streamL kd nd n = (strm kd nd j).take n) := Lib.hid (strm_enough kd nd n j (by omega)).symm
      have HBL := Lib.hid (B1.out.trans (hbl.out.mono B1.out.size))
      have HLE := Lib.hid B1.out.size
      rcases ho.out.shape2 with ⟨e1, e2⟩ | ⟨g2, c2, e1⟩
      · injection e1 with e1 e3 e4
        subst e1 e3 e4
        have hn0 : n = 0 := by omega
        subst hn0
        have HN : Hid (streamL kd nd 0 = []) := Lib.hid (by rw [HO.out, List.take_zero])
        clear ho hbl hA1 HO
        go_wp2_with (fail)
        go_ret
        exact ⟨⟨_, rfl, by rw [HN.out]; exact Own.nil_ _ _⟩, HBL.out⟩
      · rw [strm_len, hz] at e1
        injection e1 with e1 e3 e4
        subst e1 e4
        have hcap := ho.out.cap_
        have HF := Lib.hid (Own.less (Own.take_ ho.out (show n ≤ z by omega)) HLE.out)
        have q1 : n ≤ c1 := by omega
        have q2 : (n : Int) ≤ c1 := by omega
        clear ho hbl hA1 hcap
        go_wp2_with (fail)
        go_ret
        exact ⟨⟨_, rfl, by rw [HO.out]; exact HF.out⟩, HBL.out⟩
end Go.Proofs.YtdjfklllfbenjaaDoor
