/- SealAgain: the walk. -/
import Derived.Test.YtlgccohgmhngbaaDoorEi
import Derived.BigQuiet
namespace Go.Proofs.YtlgccohgmhngbaaDoor
open Go.RowKit

theorem at_app_l {a b : List Int} {k : Nat} (h : k < a.length) : at_ (a ++ b) k = at_ a k := by unfold at_; rw [List.getElem?_append_left h]
theorem at_app_r {a b : List Int} {k : Nat} (h : a.length ≤ k) : at_ (a ++ b) k = at_ b (k - a.length) := by unfold at_; rw [List.getElem?_append_right h]
theorem stream_at (kd nd : List Int) {n m i : Nat} (hn : i < n) (hm : i < m) : at_ (streamL kd nd n) i = at_ (streamL kd nd m) i := by
  rw [← strm_enough kd nd n (max n m) (by omega), ← strm_enough kd nd m (max n m) (by omega)]
  unfold at_
  rw [List.getElem?_take_of_lt hn, List.getElem?_take_of_lt hm]
theorem seal_at (kd nd pd : List Int) (hn : nd.length = 16) {i : Nat} (hi : i < pd.length) : at_ (sealL kd nd pd) (16 + i) = x8 (at_ (streamL kd nd pd.length) i) (at_ pd i) := by
  unfold sealL
  rw [at_app_l (by rw [List.length_append, maskL_len]; omega), at_app_r (by omega), hn, Nat.add_sub_cancel_left]
  exact xorL_at _ _ _ hi
theorem x8_cross {s a b : Int} (hs : By s) (ha : By a) (hb : By b) : x8 (x8 s a) (x8 s b) = x8 a b := by
  rw [x8_comm s a, x8_x8 ha hs (x8_by _ _), x8_back hs hb]
theorem seal_cross (kd nd a b : List Int) (hn : nd.length = 16) (ha : Bys8 a) (hb : Bys8 b) {i : Nat} (h1 : i < a.length) (h2 : i < b.length) :
    x8 (at_ (sealL kd nd a) (16 + i)) (at_ (sealL kd nd b) (16 + i)) = x8 (at_ a i) (at_ b i) := by
  rw [seal_at kd nd a hn h1, seal_at kd nd b hn h2, stream_at kd nd h1 h2]
  exact x8_cross ((streamL_by _ _ _).at_ i) (ha.at_ i) (hb.at_ i)
theorem seal_head (kd nd pd : List Int) (hn : nd.length = 16) : (sealL kd nd pd).take 16 = nd := by unfold sealL; rw [List.append_assoc]; exact List.take_left' hn
theorem PartAt.drewN {w : World} {p : Nat} {v : Value} {ds : List Int} (h : PartAt w p v ds) (q : Nat) : PartAt (w.drewN q) p v ds := by
  obtain ⟨A, c, e, hle, hA⟩ := h
  refine ⟨A, c, e, hle, fun h0 => ?_⟩
  obtain ⟨b, o, e2, h1, h2, h3⟩ := hA h0
  exact ⟨b, o, e2, h1, h2, h3⟩
set_option maxRecDepth 100000 in
set_option maxHeartbeats 8000000 in
theorem again_any (A0 A1 A2 A3 : Option Addr) (n0 n1 n2 n3 c0 c1 c2 c3 : Nat) (ks ns os ts : List Int) (w : World) (hl0 : ks.length = n0) (hk0 : PartAt w w.heap.size (.slice A0 n0 c0) ks) (hl1 : ns.length = n1) (hk1 : PartAt w w.heap.size (.slice A1 n1 c1) ns) (hb1 : Bys8 ns)
    (hl2 : os.length = n2) (hk2 : PartAt w w.heap.size (.slice A2 n2 c2) os) (hb2 : Bys8 os) (hl3 : ts.length = n3) (hk3 : PartAt w w.heap.size (.slice A3 n3 c3) ts) (hb3 : Bys8 ts) (htab : Tabs w) :
    Calls Tryd.prog 13 #[.slice A0 n0 c0, .slice A1 n1 c1, .slice A2 n2 c2, .slice A3 n3 c3] w fun e w' => e = .returned (.bool true) ∧ Below w.heap.size w w' := by
  by_cases g : ¬ (n2 ≤ 300 ∧ n3 ≤ 300)
  · have HK := Lib.hid (sknown_any w htab)
    clear hl0 hk0 hl1 hk1 hb1 hl2 hk2 hb2 hl3 hk3 hb3 htab
    by_cases g1 : n2 ≤ 300
    · have gI : ¬ (300 : Int) < n2 := by omega
      have gJ : (300 : Int) < n3 := by omega
      clear g
      go_enter Tryd.func13, Tryd.ntmps13
      go_wp2_with (fail)
      refine HK.out.mono ?_
      rintro e w1 ⟨rfl, h1⟩
      go_wp2_with (fail)
      go_ret
      exact ⟨rfl, h1⟩
    · have gI : (300 : Int) < n2 := by omega
      clear g
      go_enter Tryd.func13, Tryd.ntmps13
      go_wp2_with (fail)
      refine HK.out.mono ?_
      rintro e w1 ⟨rfl, h1⟩
      go_wp2_with (fail)
      go_ret
      exact ⟨rfl, h1⟩
  obtain ⟨g2, g3⟩ := Decidable.not_not.1 g
  clear g
  have gI : ¬ (300 : Int) < n2 := by omega
  have gJ : ¬ (300 : Int) < n3 := by omega
  have HT := Lib.hid htab
  have HC1 := Lib.hid (key_any A0 n0 c0 ks w hl0 hk0)
  have P1 := Lib.hid hk1
  have P2 := Lib.hid hk2
  have P3 := Lib.hid hk3
  have L1 := Lib.hid hl1
  have L2 := Lib.hid hl2
  have L3 := Lib.hid hl3
  have Y1 := Lib.hid hb1
  have Y2 := Lib.hid hb2
  have Y3 := Lib.hid hb3
  clear hl0 hk0 hl1 hk1 hb1 hl2 hk2 hb2 hl3 hk3 hb3 htab
  go_enter Tryd.func13, Tryd.ntmps13
  go_wp2_with (fail)
  refine HC1.out.mono ?_
  rintro e w1 ⟨⟨gk, rfl, o1⟩, b1⟩
  have PK1 := Lib.hid o1.part
  have HC2 := Lib.hid (nonce_any A1 n1 c1 ns w1 L1.out (P1.out.later b1 b1.size))
  have B1 := Lib.hid b1
  clear o1 b1 HC1
  go_wp2_with (fail)
  refine HC2.out.mono ?_
  rintro e w2 ⟨⟨gn, rfl, p2⟩, b2⟩
  have PN := Lib.hid p2
  have PK := Lib.hid (PK1.out.later b2 b2.size)
  have B2 := Lib.hid (B1.out.trans (b2.mono B1.out.size))
  have Q2 := Lib.hid (P2.out.later B2.out B2.out.size)
  have Q3 := Lib.hid (P3.out.later B2.out B2.out.size)
  have HT2 := Lib.hid (HT.out.below B2.out HT.out.lt)
  have Z2 : Hid (2 ≤ w2.heap.size) := Lib.hid (Nat.le_trans HT.out.lt B2.out.size)
  obtain ⟨K0, hK0⟩ : ∃ K0, keyOf ks = K0 := ⟨_, rfl⟩
  have KL : Hid (K0.length = 32) := Lib.hid (by rw [← hK0]; exact keyOf_len _)
  obtain ⟨N0, hN0⟩ : ∃ N0, (keyOf ns).take 16 = N0 := ⟨_, rfl⟩
  have NL : Hid (N0.length = 16) := Lib.hid (by rw [← hN0, List.length_take, keyOf_len]; rfl)
  have NB : Hid (Bys8 N0) := Lib.hid (by rw [← hN0]; exact (keyOf_by Y1.out).take _)
  rw [hK0] at PK
  rw [hN0] at PN
  clear hK0 hN0 PK1 B1 p2 b2 HC2 P1 P2 P3 HT L1 Y1
  have HC3 : Hid (∀ wx, Below w2.heap.size w2 wx → Calls Tryd.prog 30 #[.slice (some ⟨gk, 0, none⟩) 32 32, .slice (some ⟨gn, 0, none⟩) 16 32, .slice A2 n2 c2] wx fun e w' => (∃ v, e = .returned (.tuple #[v, .int .i64 0]) ∧ Own w' wx.heap.size v (sealL K0 N0 os)) ∧ Below wx.heap.size wx w') := Lib.hid fun wx hb => Seal_ok (some ⟨gk, 0, none⟩) (some ⟨gn, 0, none⟩) A2 32 32 n2 c2 K0 N0 os wx KL.out (PK.out.later hb hb.size) NL.out (PN.out.later hb hb.size) L2.out (Q2.out.later hb hb.size) (by omega) (HT2.out.below hb Z2.out)
  have HC4 : Hid (∀ wx, Below w2.heap.size w2 wx → Calls Tryd.prog 30 #[.slice (some ⟨gk, 0, none⟩) 32 32, .slice (some ⟨gn, 0, none⟩) 16 32, .slice A3 n3 c3] wx fun e w' => (∃ v, e = .returned (.tuple #[v, .int .i64 0]) ∧ Own w' wx.heap.size v (sealL K0 N0 ts)) ∧ Below wx.heap.size wx w') := Lib.hid fun wx hb => Seal_ok (some ⟨gk, 0, none⟩) (some ⟨gn, 0, none⟩) A3 32 32 n3 c3 K0 N0 ts wx KL.out (PK.out.later hb hb.size) NL.out (PN.out.later hb hb.size) L3.out (Q3.out.later hb hb.size) (by omega) (HT2.out.below hb Z2.out)
  go_wp2_with (fail)
  refine (HC3.out w2 (Below.refl _ _)).mono ?_
  rintro e w3 ⟨⟨vx, rfl, o3⟩, b3⟩
  have SXL : Hid ((sealL K0 N0 os).length = n2 + 32) := Lib.hid (by rw [sealL_len, NL.out, L2.out]; omega)
  have SYL : Hid ((sealL K0 N0 ts).length = n3 + 32) := Lib.hid (by rw [sealL_len, NL.out, L3.out]; omega)
  obtain ⟨gx, cx, rfl⟩ := o3.shape1 (by rw [SXL.out]; omega)
  rw [SXL.out] at o3 ⊢
  have OX3 := Lib.hid o3
  have B3 := Lib.hid b3
  clear o3 b3
  go_wp2_with (fail)
  refine (HC4.out w3 B3.out).mono ?_
  rintro e w4 ⟨⟨vy, rfl, o4⟩, b4⟩
  obtain ⟨gy, cy, rfl⟩ := o4.shape1 (by rw [SYL.out]; omega)
  rw [SYL.out] at o4 ⊢
  have OY4 := Lib.hid (Own.less o4 B3.out.size)
  have OX4 := Lib.hid (OX3.out.below b4)
  have B4 := Lib.hid (B3.out.trans (b4.mono B3.out.size))
  clear o4 b4 OX3 B3
  go_wp2_with (fail)
  refine (HC3.out w4 B4.out).mono ?_
  rintro e w5 ⟨⟨vz, rfl, o5⟩, b5⟩
  obtain ⟨gz, cz, rfl⟩ := o5.shape1 (by rw [SXL.out]; omega)
  rw [SXL.out] at o5 ⊢
  have OZ5 := Lib.hid (Own.less o5 B4.out.size)
  have OX5 := Lib.hid (OX4.out.below b5)
  have OY5 := Lib.hid (OY4.out.below b5)
  have B5 := Lib.hid (B4.out.trans (b5.mono B4.out.size))
  clear o5 b5 OX4 OY4 B4 HC3 HC4
  have HO := open_seal K0 N0 os NL.out (by rw [L2.out]; omega) Y2.out
  have HC6 := Lib.hid (Open_any (some ⟨gk, 0, none⟩) (some ⟨gx, 0, none⟩) 32 (n2 + 32) cx K0 (sealL K0 N0 os) w5 KL.out (PK.out.later B5.out B5.out.size) SXL.out OX5.out.part (sealL_by _ _ _ NB.out) (HT2.out.below B5.out Z2.out))
  rw [HO.1, HO.2] at HC6
  clear HO
  go_wp2_with (fail)
  refine HC6.out.mono ?_
  rintro e w6 ⟨⟨vp, rfl, o6⟩, b6⟩
  obtain ⟨Ap, cp, rfl, -⟩ := o6.shape
  rw [L2.out] at o6 ⊢
  have OP := Lib.hid (Own.less o6 B5.out.size)
  have OX := Lib.hid (OX5.out.below b6)
  have OY := Lib.hid (OY5.out.below b6)
  have OZ := Lib.hid (OZ5.out.below b6)
  have B6 := Lib.hid (B5.out.trans (b6.mono B5.out.size))
  have R2 := Lib.hid (Q2.out.later B6.out B6.out.size)
  have R3 := Lib.hid (Q3.out.later B6.out B6.out.size)
  have RN := Lib.hid (PN.out.later B6.out B6.out.size)
  have HT6 := Lib.hid (HT2.out.below B6.out Z2.out)
  have BW := Lib.hid (B2.out.trans (B6.out.mono B2.out.size))
  clear o6 b6 OX5 OY5 OZ5 B5 HC6 PK PN Q2 Q3 HT2 KL B2
  -- the long conjunction
  have hcx : ∀ q, (convert 22 9 (.slice (some ⟨gx, 0, none⟩) (n2 + 32) cx)).run Tryd.prog (w6.drewN q) = .ok (.string (strOfNums (sealL K0 N0 os))) (w6.drewN q) := fun q => conv_part (OX.out.part.drewN q)
  have hcz : ∀ q, (convert 22 9 (.slice (some ⟨gz, 0, none⟩) (n2 + 32) cz)).run Tryd.prog (w6.drewN q) = .ok (.string (strOfNums (sealL K0 N0 os))) (w6.drewN q) := fun q => conv_part (OZ.out.part.drewN q)
  have hcp : ∀ q, (convert 22 9 (.slice Ap n2 cp)).run Tryd.prog (w6.drewN q) = .ok (.string (strOfNums os)) (w6.drewN q) := fun q => conv_part (OP.out.part.drewN q)
  have hco : ∀ q, (convert 22 9 (.slice A2 n2 c2)).run Tryd.prog (w6.drewN q) = .ok (.string (strOfNums os)) (w6.drewN q) := fun q => conv_part (R2.out.drewN q)
  have hch : ∀ q, (convert 22 9 (.slice (some ⟨gx, 0, none⟩) 16 cx)).run Tryd.prog (w6.drewN q) = .ok (.string (strOfNums N0)) (w6.drewN q) := fun q => conv_part (by
    have := Own.take_part OX.out.part SXL.out (show 16 ≤ n2 + 32 by omega)
    rw [seal_head _ _ _ NL.out] at this
    exact this.drewN q)
  have hcn : ∀ q, (convert 22 9 (.slice (some ⟨gn, 0, none⟩) 16 32)).run Tryd.prog (w6.drewN q) = .ok (.string (strOfNums N0)) (w6.drewN q) := fun q => conv_part (RN.out.drewN q)
  have hcap := OX.out.cap_
  have q1 : 16 ≤ cx := by omega
  have q2 : (16 : Int) ≤ cx := by omega
  clear hcap
  generalize strOfNums (sealL K0 N0 os) = sx at *
  generalize strOfNums os = so at *
  generalize strOfNums N0 = sn at *
  go_upto_region 8 with (fail)
  go_quiet (fail)
  clear hcx hcz hcp hco hch hcn OP OZ RN q1 q2 NB
  have q7 : Below w6.heap.size w6 (w6.drewN nq) := ⟨rfl, rfl, rfl, Nat.le_refl _, fun _ _ => rfl⟩
  have OX7 := Lib.hid (OX.out.below q7)
  have OY7 := Lib.hid (OY.out.below q7)
  have R27 := Lib.hid (R2.out.later q7 q7.size)
  have R37 := Lib.hid (R3.out.later q7 q7.size)
  have HT7 := Lib.hid (HT6.out.below q7 HT6.out.lt)
  have BW7 := Lib.hid (BW.out.trans (q7.mono BW.out.size))
  clear q7 OX OY R2 R3 HT6 BW B6
  generalize w6.drewN nq = w7 at *
  have HXX : Hid (∀ k, k < n2 → k < n3 → x8 (at_ (sealL K0 N0 os) (16 + k)) (at_ (sealL K0 N0 ts) (16 + k)) = x8 (at_ os k) (at_ ts k)) := Lib.hid fun k h1 h2 => seal_cross K0 N0 os ts NL.out Y2.out Y3.out (by rw [L2.out]; exact h1) (by rw [L3.out]; exact h2)
  generalize sealL K0 N0 os = SX at *
  generalize sealL K0 N0 ts = SY at *
  go_wp2_with (fail)
  go_loopw [19] (fun i wx => ∃ k : Nat, k ≤ n2 ∧ k ≤ n3 ∧ i = .int .i64 k ∧ Hid (Below w7.heap.size w7 wx)) (fun i _ => n2 - (intOf i).toNat)
  case atStart => exact ⟨0, by omega, by omega, rfl, Lib.hid (Below.refl _ _)⟩
  case round =>
    obtain ⟨k, hk, hk3, rfl, hbl⟩ := hrel
    by_cases h2 : k < n2
    · have hI : (k : Int) < n2 := by omega
      by_cases h3 : k < n3
      · have hJ : (k : Int) < n3 := by omega
        have e1 := (OX7.out.below hbl.out).cellAt (j := 16 + k) (by rw [SXL.out]; omega)
        have e2 := (OY7.out.below hbl.out).cellAt (j := 16 + k) (by rw [SYL.out]; omega)
        obtain ⟨b2, o2, rfl, -, hc2⟩ := (R27.out.later hbl.out hbl.out.size).cell_ (by rw [L2.out]; omega)
        have e3 := hc2 k (by rw [L2.out]; exact h2)
        obtain ⟨b3, o3, rfl, -, hc3⟩ := (R37.out.later hbl.out hbl.out.size).cell_ (by rw [L3.out]; omega)
        have e4 := hc3 k (by rw [L3.out]; exact h3)
        have hxx := HXX.out k h2 h3
        unfold x8 at hxx
        generalize at_ SX (16 + k) = v1 at *
        generalize at_ SY (16 + k) = v2 at *
        generalize at_ os k = v3 at *
        generalize at_ ts k = v4 at *
        have r1 : (16 : Int) + k < n2 + 32 := by omega
        have r2 : (16 : Int) + k < n3 + 32 := by omega
        clear hc2 hc3
        go_upto_region 13 with (fail)
        go_quiet (fail)
        have HB2 := Lib.hid (below_drewN hbl.out nq)
        clear e1 e2 e3 e4 r1 r2 hxx hbl
        generalize wr.drewN nq = wr2 at *
        go_wp2_with (fail)
        first
          | exact ⟨⟨k + 1, by omega, by omega, by go_num, HB2⟩, by simp [intOf]; omega⟩
          | (go_roundw
             case rel => exact ⟨k + 1, by omega, by omega, by go_num, HB2⟩
             case measure => simp [intOf]; omega)
      · obtain rfl : k = n3 := by omega
        go_wp2_with (fail)
        refine (sknown_any wr (HT7.out.below hbl.out HT7.out.lt)).mono ?_
        rintro e w8 ⟨rfl, h8⟩
        go_wp2_with (fail)
        go_ret
        exact ⟨rfl, BW7.out.trans ((hbl.out.trans (h8.mono hbl.out.size)).mono BW7.out.size)⟩
    · obtain rfl : k = n2 := by omega
      go_wp2_with (fail)
      refine (sknown_any wr (HT7.out.below hbl.out HT7.out.lt)).mono ?_
      rintro e w8 ⟨rfl, h8⟩
      go_wp2_with (fail)
      go_ret
      exact ⟨rfl, BW7.out.trans ((hbl.out.trans (h8.mono hbl.out.size)).mono BW7.out.size)⟩
end Go.Proofs.YtlgccohgmhngbaaDoor
