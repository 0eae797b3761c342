/- BlakeLong: the walk. -/
import Derived.Test.YtdjfklllfbenjaaDoorBy
namespace Go.Proofs.YtdjfklllfbenjaaDoor
open Go.RowKit

theorem step_ld32 {ops : Array Oper} {o : Oper} {a : Act} {K : Act → World → Prop} {Q : Exit → Act → World → Prop} {E : Prop} {w : World} (hw : Region.wanted o (yielded ops a.tmps) = true) (x : Operand) (ho : o.op = .load 24 x)
    (g : Nat) (hx : a.eval x = .pointer (some ⟨g, 0, none⟩)) (xs : List Int) (hb : U8 w g 24 xs) (h8 : xs.length = 32) (h : K (a.put o.dst (.agg (u8s xs))) w) : if Region.wanted o (yielded ops a.tmps) = true then Oper.wp Tryd.prog o a w K Q else E := by
  rw [if_pos hw]
  exact wp_load_row 24 x ho g hx 24 (u8s xs) (0, 0) _ hb Tryd.underlying24 rfl (info32 xs h8) h
theorem PartAt.top {w : World} {p : Nat} {v : Value} {ds : List Int} (h : PartAt w p v ds) : PartAt w w.heap.size v ds := by
  obtain ⟨A, c, e, hle, hA⟩ := h
  refine ⟨A, c, e, hle, fun h0 => ?_⟩
  obtain ⟨b, o, e2, h1, h2, h3⟩ := hA h0
  exact ⟨b, o, e2, Nat.ne_of_lt h2, h2, h3⟩
theorem PartAt.cutp {w : World} {p b o n c i j : Nat} {ds : List Int} (h : PartAt w p (.slice (some ⟨b, o, none⟩) n c) ds) (hn : ds.length = n) (hi : i ≤ j) (hj : j ≤ n) :
    PartAt w p (.slice (some ⟨b, o + i, none⟩) (j - i) (c - i)) ((ds.take j).drop i) := by
  obtain ⟨A, c', e, hle, hA⟩ := h
  have hl : ((ds.take j).drop i).length = j - i := by rw [List.length_drop, List.length_take]; omega
  simp at e
  obtain ⟨e1, e2, e3⟩ := e
  subst e1 e3
  refine ⟨_, c - i, by rw [hl], ?_, fun h0 => ?_⟩
  · rw [hl]
    exact Nat.sub_le_sub_right (Nat.le_trans (by rw [hn] at hle; exact hj) (by rw [hn] at hle; exact hle)) i
  rw [hl] at h0
  have h00 : 0 < ds.length := by rw [hn]; exact Nat.lt_of_lt_of_le (Nat.lt_of_lt_of_le h0 (Nat.sub_le j i)) hj
  obtain ⟨b', o', e4, h1, h2, h3⟩ := hA h00
  simp at e4
  obtain ⟨e4, e5⟩ := e4
  subst e4 e5
  refine ⟨b, o + i, rfl, h1, h2, fun k hk => ?_⟩
  rw [hl] at hk
  have hkj : i + k < j := by clear h3 hA; omega
  rw [Nat.add_assoc, h3 (i + k) (by rw [hn]; exact Nat.lt_of_lt_of_le hkj hj)]
  congr 2
  unfold at_
  rw [List.getElem?_drop, List.getElem?_take_of_lt hkj]
theorem PartAt.cap_ {w : World} {p : Nat} {A : Option Addr} {n c : Nat} {ds : List Int} (h : PartAt w p (.slice A n c) ds) (hn : ds.length = n) : n ≤ c := by
  obtain ⟨A', c', e, hle, -⟩ := h
  simp at e
  omega
theorem PartAt.some1 {w : World} {p : Nat} {A : Option Addr} {n c : Nat} {ds : List Int} (h : PartAt w p (.slice A n c) ds) (h0 : 0 < ds.length) : ∃ b o, A = some ⟨b, o, none⟩ := by
  obtain ⟨A', c', e, hle, hA⟩ := h
  obtain ⟨b, o, e2, _⟩ := hA h0
  simp at e
  exact ⟨b, o, by rw [e.1, e2]⟩
set_option maxRecDepth 100000 in
set_option maxHeartbeats 8000000 in
theorem long_any (zn zp y : Int) (w : World) (hy : 0 ≤ y ∧ y < 256) (htab : Tabs w) :
    Calls Tryd.prog 6 #[.int .i64 zn, .int .i64 zp, .int .u8 y] w fun e w' => e = .returned (.bool true) ∧ Below w.heap.size w w' := by
  have HKN : Hid (∀ w', Below w.heap.size w w' → Calls Tryd.prog 14 #[] w' fun e w'' => e = .returned (.bool true) ∧ Below w.heap.size w w'') := Lib.hid fun w' h => (known_any w' (htab.below h htab.lt)).mono fun e w'' hh => ⟨hh.1, h.trans (hh.2.mono h.size)⟩
  have HT := Lib.hid htab
  have Z2 : Hid (2 ≤ w.heap.size) := Lib.hid htab.lt
  have HY := Lib.hid hy
  clear htab hy
  by_cases g1 : zn < 0
  · go_enter Tryd.func6, Tryd.ntmps6
    go_wp2_with (fail)
    refine (HKN.out w (Below.refl _ _)).mono ?_
    rintro e w1 ⟨rfl, h1⟩
    go_wp2_with (fail)
    go_ret
    exact ⟨rfl, h1⟩
  by_cases g2 : 3000 < zn
  · go_enter Tryd.func6, Tryd.ntmps6
    go_wp2_with (fail)
    refine (HKN.out w (Below.refl _ _)).mono ?_
    rintro e w1 ⟨rfl, h1⟩
    go_wp2_with (fail)
    go_ret
    exact ⟨rfl, h1⟩
  by_cases g3 : zp < 1
  · go_enter Tryd.func6, Tryd.ntmps6
    go_wp2_with (fail)
    refine (HKN.out w (Below.refl _ _)).mono ?_
    rintro e w1 ⟨rfl, h1⟩
    go_wp2_with (fail)
    go_ret
    exact ⟨rfl, h1⟩
  by_cases g4 : 200 < zp
  · go_enter Tryd.func6, Tryd.ntmps6
    go_wp2_with (fail)
    refine (HKN.out w (Below.refl _ _)).mono ?_
    rintro e w1 ⟨rfl, h1⟩
    go_wp2_with (fail)
    go_ret
    exact ⟨rfl, h1⟩
  obtain ⟨n, rfl⟩ : ∃ n : Nat, zn = n := ⟨zn.toNat, by omega⟩
  obtain ⟨p, rfl⟩ : ∃ p : Nat, zp = p := ⟨zp.toNat, by omega⟩
  have HNP : Hid (n ≤ 3000 ∧ 1 ≤ p ∧ p ≤ 200) := Lib.hid (by omega)
  have O0 : Hid (Own w w.heap.size (.slice none 0 0) (List.replicate 0 y)) := Lib.hid (Own.nil_ _ _)
  go_enter Tryd.func6, Tryd.ntmps6
  go_wp2_with (fail)
  clear g1 g3 g4
  go_loopw [7, 8] (fun v i wx => ∃ k : Nat, Hid (k ≤ n) ∧ i = .int .i64 (k : Int) ∧ Hid (Own wx w.heap.size v (List.replicate k y)) ∧ Hid (Below w.heap.size w wx)) (fun _ i _ => n - (intOf i).toNat)
  case atStart => exact ⟨0, Lib.hid (by omega), rfl, O0, Lib.hid (Below.refl _ _)⟩
  case round =>
    obtain ⟨k, hk, rfl, ho, hbl⟩ := hrel
    clear O0
    obtain ⟨A1, c1, rfl, hA1⟩ := ho.out.shapeB
    rw [List.length_replicate] at ho ⊢
    by_cases g : k < n
    · have gI : (k : Int) < n := by omega
      have HOA := Lib.hid (ho.out.keep (fun g hg => Below.heap_alloc wr (.cells #[.int .u8 y] 5) g hg))
      have HBA := Lib.hid (hbl.out.alloc hbl.out.size (.cells #[.int .u8 y] 5))
      have hsz := hbl.out.size
      clear ho hbl hA1
      go_wp2_with (at_builtin; refine app1 rfl _ _ _ rfl Tryd.underlying22 rfl HOA.out HBA.out (by simp; omega) wr.heap.size y rfl (by rw [World.cell?_alloc_at _ _ _ _ rfl]; rfl) (by rw [List.length_replicate]; have := HNP.out; omega) ?_; intro v2 w2 o2 b2)
      have O2 : Hid (Own w2 w.heap.size v2 (List.replicate (k + 1) y)) := Lib.hid (by rw [List.replicate_succ']; exact o2)
      have B2 := Lib.hid b2
      clear o2 b2 HOA HBA hsz
      go_wp2_with (fail)
      first
        | exact ⟨⟨k + 1, Lib.hid (by omega), by go_num, O2, B2⟩, by simp [intOf]; omega⟩
        | (go_roundw
           case rel => exact ⟨k + 1, Lib.hid (by omega), by go_num, O2, B2⟩
           case measure => simp [intOf]; omega)
    · obtain rfl : k = n := by have := hk.out; omega
      have BW := Lib.hid hbl.out
      have HAA := Lib.hid hA1
      have HC4 := Lib.hid (new_any none 0 0 [] wr rfl (by omega) (PartAt.nil_ _ _) (HT.out.below BW.out Z2.out))
      have PB := Lib.hid ho.out.part
      clear ho hbl hA1 hk
      go_wp2_with (fail)
      refine HC4.out.mono ?_
      rintro e w4 ⟨⟨gc, x, rfl, hgc, hx, hi, -⟩, b4⟩
      have HX : Hid (∃ x, HashAt w4 gc x ∧ Inv x (hk0 0) (kmsg [] ++ List.replicate (min 0 k) y)) := Lib.hid ⟨x, hx, by rw [Nat.zero_min, List.replicate_zero, List.append_nil]; exact hi⟩
      have B4 := Lib.hid (BW.out.trans (b4.mono BW.out.size))
      have GC : Hid (w.heap.size ≤ gc) := Lib.hid (Nat.le_trans BW.out.size hgc)
      have PB4 : Hid (PartAt w4 gc (.slice A1 k c1) (List.replicate k y)) := Lib.hid (PB.out.later b4 hgc)
      clear hx hi hgc b4 HC4 PB BW
      go_wp2_with (fail)
      clear g2
      go_loopw [11] (fun i wx => ∃ t : Nat, Hid (t ≤ k + 200) ∧ i = .int .i64 (t : Int) ∧ Hid (∃ x, HashAt wx gc x ∧ Inv x (hk0 0) (kmsg [] ++ List.replicate (min t k) y)) ∧ Hid (PartAt wx gc (.slice A1 k c1) (List.replicate k y)) ∧ Hid (Below w.heap.size w wx)) (fun i _ => k + 200 - (intOf i).toNat)
      case atStart => exact ⟨0, Lib.hid (by omega), rfl, HX, PB4, B4⟩
      case round =>
        obtain ⟨t, ht, rfl, hx, hp, hbl⟩ := hrel
        clear HX PB4 B4
        have hkk : (k : Int) ≤ 3000 := by have := HNP.out; omega
        by_cases gt : t < k
        · have gT : (t : Int) < k := by omega
          have hrl : (List.replicate k y).length = k := List.length_replicate
          obtain ⟨b, o, rfl⟩ := hp.out.some1 (by omega)
          have hcap := hp.out.cap_ hrl
          obtain ⟨e, he⟩ : ∃ e, min (t + p) k = e := ⟨_, rfl⟩
          have hte : t ≤ e := by have := HNP.out; omega
          have hek : e ≤ k := by omega
          have PC := hp.out.cutp hrl hte hek
          rw [List.take_replicate, Nat.min_eq_left hek, List.drop_replicate] at PC
          obtain ⟨x1, hx1, hi1⟩ := hx.out
          rw [Nat.min_eq_left (by omega : t ≤ k)] at hi1
          have HC5 := Lib.hid (write_any hx1 hi1 (some ⟨b, o + t, none⟩) (e - t) (c1 - t) (List.replicate (e - t) y) PC (Nat.le_trans Z2.out GC.out) (HT.out.below hbl.out Z2.out) (by rw [List.length_append, List.length_replicate, List.length_replicate]; have := kmsg_len [] (by simp); have := HNP.out; omega))
          have HEE : Hid (min (t + p) k = e ∧ t ≤ e) := Lib.hid ⟨he, hte⟩
          have HPP := Lib.hid hp.out
          have HBL := Lib.hid hbl.out
          have r1 : t ≤ e := hte
          have r2 : (t : Int) ≤ e := by omega
          have r3 : (e : Int) ≤ c1 := by omega
          have r4 : e ≤ c1 := by omega
          have r5 : ¬ c1 = t := by omega
          have hpI : (p : Int) ≤ 200 := by have := HNP.out; omega
          have hpJ : (1 : Int) ≤ p := by have := HNP.out; omega
          by_cases ge : k < t + p
          · have gE : (k : Int) < (t : Int) + p := by omega
            obtain rfl : e = k := by omega
            clear hx hp hbl hx1 hi1 PC hrl hcap hte hek he
            go_wp2_with (fail)
            refine HC5.out.mono ?_
            rintro e' w5 ⟨rfl, ⟨x2, hx2, hi2, -⟩, b5⟩
            have X5 : Hid (∃ x, HashAt w5 gc x ∧ Inv x (hk0 0) (kmsg [] ++ List.replicate (min (t + p) e) y)) := Lib.hid ⟨x2, hx2, by rw [HEE.out.1]; rw [List.append_assoc, List.replicate_append_replicate, show t + (e - t) = e by have := HEE.out.2; omega] at hi2; exact hi2⟩
            have P5 := Lib.hid (HPP.out.but b5)
            have B5 := Lib.hid (Go.Proofs.YtdjfklllfbenjaaDoor.Below.but HBL.out b5 GC.out)
            clear hx2 hi2 b5 HC5 HPP HBL r1 r2 r3 r4 r5
            go_wp2_with (fail)
            first
              | exact ⟨⟨t + p, Lib.hid (by omega), by go_num, X5, P5, B5⟩, by simp [intOf]; omega⟩
              | (go_roundw
                 case rel => exact ⟨t + p, Lib.hid (by omega), by go_num, X5, P5, B5⟩
                 case measure => simp [intOf]; omega)
          · have gE : ¬ (k : Int) < (t : Int) + p := by omega
            have hs : (t : Int) + p = (e : Int) := by omega
            clear hx hp hbl hx1 hi1 PC hrl hcap hte hek he
            go_wp2_with (fail)
            refine HC5.out.mono ?_
            rintro e' w5 ⟨rfl, ⟨x2, hx2, hi2, -⟩, b5⟩
            have X5 : Hid (∃ x, HashAt w5 gc x ∧ Inv x (hk0 0) (kmsg [] ++ List.replicate (min (t + p) k) y)) := Lib.hid ⟨x2, hx2, by rw [HEE.out.1]; rw [List.append_assoc, List.replicate_append_replicate, show t + (e - t) = e by have := HEE.out.2; omega] at hi2; exact hi2⟩
            have P5 := Lib.hid (HPP.out.but b5)
            have B5 := Lib.hid (Go.Proofs.YtdjfklllfbenjaaDoor.Below.but HBL.out b5 GC.out)
            clear hx2 hi2 b5 HC5 HPP HBL r1 r2 r3 r4 r5
            go_wp2_with (fail)
            first
              | exact ⟨⟨t + p, Lib.hid (by omega), by go_num, X5, P5, B5⟩, by simp [intOf]; omega⟩
              | (go_roundw
                 case rel => exact ⟨t + p, Lib.hid (by omega), by go_num, X5, P5, B5⟩
                 case measure => simp [intOf]; omega)
        · have gT : ¬ (t : Int) < k := by omega
          obtain ⟨x1, hx1, hi1⟩ := hx.out
          rw [Nat.min_eq_right (by omega : k ≤ t)] at hi1
          obtain ⟨rep, hrep⟩ : ∃ r, List.replicate k y = r := ⟨_, rfl⟩
          have hrl : rep.length = k := by rw [← hrep, List.length_replicate]
          rw [hrep] at hi1 hp
          have HRL := Lib.hid hrl
          have HX6 := Lib.hid hx1
          have HI6 := Lib.hid hi1
          have HP6 := Lib.hid hp.out.top
          have HB6 := Lib.hid hbl.out
          have HC6 := Lib.hid (sum_any A1 k c1 rep wr hp.out.top (by rw [hrl]; have := HNP.out; omega) (HT.out.below hbl.out Z2.out))
          clear hx hp hbl hx1 hi1 hrep hrl hkk ht
          go_wp2_with (fail)
          refine HC6.out.mono ?_
          rintro e w6 ⟨rfl, b6⟩
          obtain ⟨q1, q2, q3⟩ := arr_new w6 (hashB [] rep)
          have hl := hashB_len [] rep
          have hb6 := b6.trans (q2.mono b6.size)
          have X7 := Lib.hid (HX6.out.below hb6 HX6.out.lt)
          have P7 := Lib.hid (HP6.out.later hb6 hb6.size)
          have B7 := Lib.hid (HB6.out.trans (hb6.mono HB6.out.size))
          have R1 := Lib.hid q1
          have RN := Lib.hid q3
          clear q1 q2 q3 b6 hb6 HC6 HX6 HP6 HB6
          obtain ⟨hh, hhh⟩ : ∃ hh, hashB [] rep = hh := ⟨_, rfl⟩
          have HHH := Lib.hid hhh
          rw [hhh] at X7 P7 B7 R1 hl ⊢
          obtain ⟨W7, hW7⟩ : ∃ W7, (w6.alloc (.cells (u8s z32) 24)).setRow w6.heap.size (u8s hh) = W7 := ⟨_, rfl⟩
          rw [hW7] at X7 P7 B7 R1
          rw [u8s_z32] at RN hW7
          go_upto_region 20 with (refine st32 rfl _ _ rfl w6.heap.size rfl z32 hh rfl RN.out hl rfl ?_)
          try rw [hW7]
          clear RN hW7 hhh
          generalize w6.heap.size = g1 at *
          have HC8 := Lib.hid (msum_any X7.out HI6.out (HT.out.below B7.out Z2.out) (by rw [List.length_append, HRL.out]; have := kmsg_len [] (by simp); have := HNP.out; omega))
          rw [show bytesL (hashS (hk0 0) (kmsg [] ++ rep)) = hh from HHH.out] at HC8
          have HL := Lib.hid hl
          clear hl
          go_wp2_with (fail)
          refine HC8.out.mono ?_
          rintro e w8 ⟨rfl, b8⟩
          obtain ⟨q1, q2, q3⟩ := arr_new w8 hh
          have hb8 := b8.trans (q2.mono b8.size)
          have P9 := Lib.hid (P7.out.later hb8 hb8.size)
          have B9 := Lib.hid (B7.out.trans (hb8.mono B7.out.size))
          have R19 := Lib.hid (R1.out.below hb8 R1.out.lt)
          have R2 := Lib.hid q1
          have RN := Lib.hid q3
          clear q1 q2 q3 b8 hb8 HC8 P7 R1
          obtain ⟨W9, hW9⟩ : ∃ W9, (w8.alloc (.cells (u8s z32) 24)).setRow w8.heap.size (u8s hh) = W9 := ⟨_, rfl⟩
          rw [hW9] at P9 B9 R19 R2
          rw [u8s_z32] at RN hW9
          go_upto_region 21 with (refine st32 rfl _ _ rfl w8.heap.size rfl z32 hh rfl RN.out HL.out rfl ?_)
          try rw [hW9]
          clear RN hW9
          generalize w8.heap.size = g2 at *
          obtain ⟨sh, hsh⟩ : ∃ z, strOfNums hh = z := ⟨_, rfl⟩
          have HKEEP : Hid (∀ w', Below W9.heap.size W9 w' → (convert 22 9 (.slice (some ⟨g1, 0, none⟩) 32 32)).run Tryd.prog w' = .ok (.string sh) w') := Lib.hid fun w' h => by
            rw [← hsh]; exact conv_part ((R19.out.part32 HL.out).later h h.size)
          have HCALL : Hid (∀ w', Below W9.heap.size W9 w' → Calls Tryd.prog 16 #[.slice none 0 0, .slice A1 k c1] w' fun e w'' => ∃ v', e = .returned v' ∧ (convert 22 9 v').run Tryd.prog w'' = .ok (.string sh) w'' ∧ (convert 22 9 (.slice (some ⟨g1, 0, none⟩) 32 32)).run Tryd.prog w'' = .ok (.string sh) w'' ∧ Below W9.heap.size W9 w'') := Lib.hid fun w' h => (rhash_any none A1 0 0 k c1 [] rep w' rfl (by omega) (PartAt.nil_ _ _) (P9.out.later h h.size) HRL.out (by have := HNP.out; omega) (fun _ => rfl) HAA.out).mono fun e w'' hz => by
            obtain ⟨⟨v', e1, h1⟩, h2⟩ := hz
            have hq := h.trans (h2.mono h.size)
            exact ⟨v', e1, by rw [← hsh, ← HHH.out]; exact conv_part h1.part, HKEEP.out _ hq, hq⟩
          have HCK : Hid (∀ w', Below W9.heap.size W9 w' → Calls Tryd.prog 14 #[] w' fun e w'' => e = .returned (.bool true) ∧ Below w.heap.size w w'') := Lib.hid fun w' h => HKN.out w' (B9.out.trans (h.mono B9.out.size))
          have hRD : Below W9.heap.size W9 W9.drew := (Below.refl _ _).drew
          have hcd := HKEEP.out _ hRD
          have hby : ∀ x ∈ hh, 0 ≤ x ∧ x < (256 : Int) := by
            rw [← HHH.out]
            intro x hx
            obtain ⟨i, -, rfl⟩ := List.mem_map.1 hx
            unfold byteAt
            omega
          have heq := eq_same hh hby HL.out
          clear hby
          clear hsh P9
          refine wp_region_any (by kernel_rfl) ?_
          refine wpAny_take (i := 0) (v := .int .i64 0) rfl (by kernel_rfl) (by kernel_rfl) (by kernel_rfl) (fun _ _ _ h => h) (Or.inl ⟨by rfl, ?_⟩) ?_
          · intro w; go_simp
          try simp only [List.getElem_toArray, List.getElem_cons_zero, List.getElem_cons_succ, Act.put, List.setIfInBounds_toArray, List.set_cons_zero, List.set_cons_succ]
          refine wpAny_take (i := 1) (v := .bool true) rfl (by kernel_rfl) (by kernel_rfl) (by kernel_rfl) (fun _ _ _ h => h) (Or.inl ⟨by rfl, ?_⟩) ?_
          · intro w; go_simp
          try simp only [List.getElem_toArray, List.getElem_cons_zero, List.getElem_cons_succ, Act.put, List.setIfInBounds_toArray, List.set_cons_zero, List.set_cons_succ]
          refine wpAny_take (i := 2) (v := .bool true) rfl (by kernel_rfl) (by kernel_rfl) (by kernel_rfl) (fun _ _ _ h => h) (Or.inl ⟨by rfl, ?_⟩) ?_
          · intro w; go_simp
          try simp only [List.getElem_toArray, List.getElem_cons_zero, List.getElem_cons_succ, Act.put, List.setIfInBounds_toArray, List.set_cons_zero, List.set_cons_succ]
          refine wpAny_ready (rs := [3, 4]) (by kernel_rfl) (by simp) ?_
          refine AllReady.cons rfl (fun K hK => ?_) (AllReady.cons rfl (fun K hK => ?_) AllReady.nil)
          · refine step_ld32 (by rfl) _ rfl g1 rfl hh R19.out HL.out ?_
            refine hK _ _ ?_; clear hK K
            try simp only [List.getElem_toArray, List.getElem_cons_zero, List.getElem_cons_succ, Act.put, List.setIfInBounds_toArray, List.set_cons_zero, List.set_cons_succ]
            refine wpAny_ready (rs := [4]) (by kernel_rfl) (by simp) ?_
            refine AllReady.cons rfl (fun K hK => ?_) AllReady.nil
            refine step_ld32 (by rfl) _ rfl g2 rfl hh R2.out HL.out ?_
            refine hK _ _ ?_; clear hK K
            try simp only [List.getElem_toArray, List.getElem_cons_zero, List.getElem_cons_succ, Act.put, List.setIfInBounds_toArray, List.set_cons_zero, List.set_cons_succ]
            refine wpAny_take (i := 5) (v := .bool true) rfl (by kernel_rfl) (by kernel_rfl) (by kernel_rfl) (fun _ _ _ h => h) (Or.inl ⟨by rfl, ?_⟩) ?_
            · intro w; go_simp
            try simp only [List.getElem_toArray, List.getElem_cons_zero, List.getElem_cons_succ, Act.put, List.setIfInBounds_toArray, List.set_cons_zero, List.set_cons_succ]
            refine wpAny_take (i := 6) (v := .bool true) rfl (by kernel_rfl) (by kernel_rfl) (by kernel_rfl) (fun _ _ _ h => h) (Or.inl ⟨by rfl, ?_⟩) ?_
            · intro w; go_simp
            try simp only [List.getElem_toArray, List.getElem_cons_zero, List.getElem_cons_succ, Act.put, List.setIfInBounds_toArray, List.set_cons_zero, List.set_cons_succ]
            refine wpAny_take (i := 7) (v := .bool true) rfl (by kernel_rfl) (by kernel_rfl) (by kernel_rfl) (fun _ _ _ h => h) (Or.inl ⟨by rfl, ?_⟩) ?_
            · intro w; go_simp
            try simp only [List.getElem_toArray, List.getElem_cons_zero, List.getElem_cons_succ, Act.put, List.setIfInBounds_toArray, List.set_cons_zero, List.set_cons_succ]
            refine wpAny_take (i := 8) (v := .slice (some ⟨g1, 0, none⟩) 32 32) rfl (by kernel_rfl) (by kernel_rfl) (by kernel_rfl) (fun _ _ _ h => h) (Or.inl ⟨by rfl, ?_⟩) ?_
            · intro w; go_simp
            try simp only [List.getElem_toArray, List.getElem_cons_zero, List.getElem_cons_succ, Act.put, List.setIfInBounds_toArray, List.set_cons_zero, List.set_cons_succ]
            refine wpAny_take (i := 10) (v := .slice A1 k c1) rfl (by kernel_rfl) (by kernel_rfl) (by kernel_rfl) (fun _ _ _ h => h) (Or.inl ⟨by rfl, ?_⟩) ?_
            · intro w; go_simp
            try simp only [List.getElem_toArray, List.getElem_cons_zero, List.getElem_cons_succ, Act.put, List.setIfInBounds_toArray, List.set_cons_zero, List.set_cons_succ]
            refine wpAny_ready (rs := [9, 11]) (by kernel_rfl) (by simp) ?_
            refine AllReady.cons rfl (fun K hK => ?_) (AllReady.cons rfl (fun K hK => ?_) AllReady.nil)
            · go_simp
              refine hK _ _ ?_; clear hK K
              try simp only [List.getElem_toArray, List.getElem_cons_zero, List.getElem_cons_succ, Act.put, List.setIfInBounds_toArray, List.set_cons_zero, List.set_cons_succ]
              refine wpAny_ready (rs := [11]) (by kernel_rfl) (by simp) ?_
              refine AllReady.cons rfl (fun K hK => ?_) AllReady.nil
              go_simp; go_at_call 16; refine (HCALL.out _ hRD).mono ?_; rintro e w5 ⟨v5, rfl, hc5, hd5, h5⟩
              refine hK _ _ ?_; clear hK K
              try simp only [List.getElem_toArray, List.getElem_cons_zero, List.getElem_cons_succ, Act.put, List.setIfInBounds_toArray, List.set_cons_zero, List.set_cons_succ]
              refine wpAny_ready (rs := [12]) (by kernel_rfl) (by simp) ?_
              refine AllReady.cons rfl (fun K hK => ?_) AllReady.nil
              go_simp
              refine hK _ _ ?_; clear hK K
              try simp only [List.getElem_toArray, List.getElem_cons_zero, List.getElem_cons_succ, Act.put, List.setIfInBounds_toArray, List.set_cons_zero, List.set_cons_succ]
              refine wpAny_take (i := 13) (v := .bool true) rfl (by kernel_rfl) (by kernel_rfl) (by kernel_rfl) (fun _ _ _ h => h) (Or.inl ⟨by rfl, ?_⟩) ?_
              · intro w; go_simp
              try simp only [List.getElem_toArray, List.getElem_cons_zero, List.getElem_cons_succ, Act.put, List.setIfInBounds_toArray, List.set_cons_zero, List.set_cons_succ]
              refine wpAny_take (i := 14) (v := .bool true) rfl (by kernel_rfl) (by kernel_rfl) (by kernel_rfl) (fun _ _ _ h => h) (Or.inl ⟨by rfl, ?_⟩) ?_
              · intro w; go_simp
              try simp only [List.getElem_toArray, List.getElem_cons_zero, List.getElem_cons_succ, Act.put, List.setIfInBounds_toArray, List.set_cons_zero, List.set_cons_succ]
              refine wpAny_take (i := 15) (v := .bool true) rfl (by kernel_rfl) (by kernel_rfl) (by kernel_rfl) (fun _ _ _ h => h) (Or.inl ⟨by rfl, ?_⟩) ?_
              · intro w; go_simp
              try simp only [List.getElem_toArray, List.getElem_cons_zero, List.getElem_cons_succ, Act.put, List.setIfInBounds_toArray, List.set_cons_zero, List.set_cons_succ]
              refine wpAny_ready (rs := [16]) (by kernel_rfl) (by simp) ?_
              refine AllReady.cons rfl (fun K hK => ?_) AllReady.nil
              go_simp; go_at_call 14; refine (HCK.out _ h5).mono ?_; rintro e w6 ⟨rfl, h6⟩
              refine hK _ _ ?_; clear hK K
              try simp only [List.getElem_toArray, List.getElem_cons_zero, List.getElem_cons_succ, Act.put, List.setIfInBounds_toArray, List.set_cons_zero, List.set_cons_succ]
              refine wpAny_take (i := 17) (v := .bool true) rfl (by kernel_rfl) (by kernel_rfl) (by kernel_rfl) (fun _ _ _ h => h) (Or.inl ⟨by rfl, ?_⟩) ?_
              · intro w; go_simp
              try simp only [List.getElem_toArray, List.getElem_cons_zero, List.getElem_cons_succ, Act.put, List.setIfInBounds_toArray, List.set_cons_zero, List.set_cons_succ]
              refine wpAny_take (i := 18) (v := .bool true) rfl (by kernel_rfl) (by kernel_rfl) (by kernel_rfl) (fun _ _ _ h => h) (Or.inl ⟨by rfl, ?_⟩) ?_
              · intro w; go_simp
              try simp only [List.getElem_toArray, List.getElem_cons_zero, List.getElem_cons_succ, Act.put, List.setIfInBounds_toArray, List.set_cons_zero, List.set_cons_succ]
              refine wpAny_done (by kernel_rfl) ?_ _
              go_wp2_with (fail)
              go_ret
              exact ⟨rfl, h6⟩
            · go_simp; go_at_call 16; refine (HCALL.out _ hRD).mono ?_; rintro e w5 ⟨v5, rfl, hc5, hd5, h5⟩
              refine hK _ _ ?_; clear hK K
              try simp only [List.getElem_toArray, List.getElem_cons_zero, List.getElem_cons_succ, Act.put, List.setIfInBounds_toArray, List.set_cons_zero, List.set_cons_succ]
              refine wpAny_ready (rs := [9, 12]) (by kernel_rfl) (by simp) ?_
              refine AllReady.cons rfl (fun K hK => ?_) (AllReady.cons rfl (fun K hK => ?_) AllReady.nil)
              · go_simp
                refine hK _ _ ?_; clear hK K
                try simp only [List.getElem_toArray, List.getElem_cons_zero, List.getElem_cons_succ, Act.put, List.setIfInBounds_toArray, List.set_cons_zero, List.set_cons_succ]
                refine wpAny_ready (rs := [12]) (by kernel_rfl) (by simp) ?_
                refine AllReady.cons rfl (fun K hK => ?_) AllReady.nil
                go_simp
                refine hK _ _ ?_; clear hK K
                try simp only [List.getElem_toArray, List.getElem_cons_zero, List.getElem_cons_succ, Act.put, List.setIfInBounds_toArray, List.set_cons_zero, List.set_cons_succ]
                refine wpAny_take (i := 13) (v := .bool true) rfl (by kernel_rfl) (by kernel_rfl) (by kernel_rfl) (fun _ _ _ h => h) (Or.inl ⟨by rfl, ?_⟩) ?_
                · intro w; go_simp
                try simp only [List.getElem_toArray, List.getElem_cons_zero, List.getElem_cons_succ, Act.put, List.setIfInBounds_toArray, List.set_cons_zero, List.set_cons_succ]
                refine wpAny_take (i := 14) (v := .bool true) rfl (by kernel_rfl) (by kernel_rfl) (by kernel_rfl) (fun _ _ _ h => h) (Or.inl ⟨by rfl, ?_⟩) ?_
                · intro w; go_simp
                try simp only [List.getElem_toArray, List.getElem_cons_zero, List.getElem_cons_succ, Act.put, List.setIfInBounds_toArray, List.set_cons_zero, List.set_cons_succ]
                refine wpAny_take (i := 15) (v := .bool true) rfl (by kernel_rfl) (by kernel_rfl) (by kernel_rfl) (fun _ _ _ h => h) (Or.inl ⟨by rfl, ?_⟩) ?_
                · intro w; go_simp
                try simp only [List.getElem_toArray, List.getElem_cons_zero, List.getElem_cons_succ, Act.put, List.setIfInBounds_toArray, List.set_cons_zero, List.set_cons_succ]
                refine wpAny_ready (rs := [16]) (by kernel_rfl) (by simp) ?_
                refine AllReady.cons rfl (fun K hK => ?_) AllReady.nil
                go_simp; go_at_call 14; refine (HCK.out _ h5).mono ?_; rintro e w6 ⟨rfl, h6⟩
                refine hK _ _ ?_; clear hK K
                try simp only [List.getElem_toArray, List.getElem_cons_zero, List.getElem_cons_succ, Act.put, List.setIfInBounds_toArray, List.set_cons_zero, List.set_cons_succ]
                refine wpAny_take (i := 17) (v := .bool true) rfl (by kernel_rfl) (by kernel_rfl) (by kernel_rfl) (fun _ _ _ h => h) (Or.inl ⟨by rfl, ?_⟩) ?_
                · intro w; go_simp
                try simp only [List.getElem_toArray, List.getElem_cons_zero, List.getElem_cons_succ, Act.put, List.setIfInBounds_toArray, List.set_cons_zero, List.set_cons_succ]
                refine wpAny_take (i := 18) (v := .bool true) rfl (by kernel_rfl) (by kernel_rfl) (by kernel_rfl) (fun _ _ _ h => h) (Or.inl ⟨by rfl, ?_⟩) ?_
                · intro w; go_simp
                try simp only [List.getElem_toArray, List.getElem_cons_zero, List.getElem_cons_succ, Act.put, List.setIfInBounds_toArray, List.set_cons_zero, List.set_cons_succ]
                refine wpAny_done (by kernel_rfl) ?_ _
                go_wp2_with (fail)
                go_ret
                exact ⟨rfl, h6⟩
              · go_simp
                refine hK _ _ ?_; clear hK K
                try simp only [List.getElem_toArray, List.getElem_cons_zero, List.getElem_cons_succ, Act.put, List.setIfInBounds_toArray, List.set_cons_zero, List.set_cons_succ]
                refine wpAny_ready (rs := [9]) (by kernel_rfl) (by simp) ?_
                refine AllReady.cons rfl (fun K hK => ?_) AllReady.nil
                go_simp
                refine hK _ _ ?_; clear hK K
                try simp only [List.getElem_toArray, List.getElem_cons_zero, List.getElem_cons_succ, Act.put, List.setIfInBounds_toArray, List.set_cons_zero, List.set_cons_succ]
                refine wpAny_take (i := 13) (v := .bool true) rfl (by kernel_rfl) (by kernel_rfl) (by kernel_rfl) (fun _ _ _ h => h) (Or.inl ⟨by rfl, ?_⟩) ?_
                · intro w; go_simp
                try simp only [List.getElem_toArray, List.getElem_cons_zero, List.getElem_cons_succ, Act.put, List.setIfInBounds_toArray, List.set_cons_zero, List.set_cons_succ]
                refine wpAny_take (i := 14) (v := .bool true) rfl (by kernel_rfl) (by kernel_rfl) (by kernel_rfl) (fun _ _ _ h => h) (Or.inl ⟨by rfl, ?_⟩) ?_
                · intro w; go_simp
                try simp only [List.getElem_toArray, List.getElem_cons_zero, List.getElem_cons_succ, Act.put, List.setIfInBounds_toArray, List.set_cons_zero, List.set_cons_succ]
                refine wpAny_take (i := 15) (v := .bool true) rfl (by kernel_rfl) (by kernel_rfl) (by kernel_rfl) (fun _ _ _ h => h) (Or.inl ⟨by rfl, ?_⟩) ?_
                · intro w; go_simp
                try simp only [List.getElem_toArray, List.getElem_cons_zero, List.getElem_cons_succ, Act.put, List.setIfInBounds_toArray, List.set_cons_zero, List.set_cons_succ]
                refine wpAny_ready (rs := [16]) (by kernel_rfl) (by simp) ?_
                refine AllReady.cons rfl (fun K hK => ?_) AllReady.nil
                go_simp; go_at_call 14; refine (HCK.out _ h5).mono ?_; rintro e w6 ⟨rfl, h6⟩
                refine hK _ _ ?_; clear hK K
                try simp only [List.getElem_toArray, List.getElem_cons_zero, List.getElem_cons_succ, Act.put, List.setIfInBounds_toArray, List.set_cons_zero, List.set_cons_succ]
                refine wpAny_take (i := 17) (v := .bool true) rfl (by kernel_rfl) (by kernel_rfl) (by kernel_rfl) (fun _ _ _ h => h) (Or.inl ⟨by rfl, ?_⟩) ?_
                · intro w; go_simp
                try simp only [List.getElem_toArray, List.getElem_cons_zero, List.getElem_cons_succ, Act.put, List.setIfInBounds_toArray, List.set_cons_zero, List.set_cons_succ]
                refine wpAny_take (i := 18) (v := .bool true) rfl (by kernel_rfl) (by kernel_rfl) (by kernel_rfl) (fun _ _ _ h => h) (Or.inl ⟨by rfl, ?_⟩) ?_
                · intro w; go_simp
                try simp only [List.getElem_toArray, List.getElem_cons_zero, List.getElem_cons_succ, Act.put, List.setIfInBounds_toArray, List.set_cons_zero, List.set_cons_succ]
                refine wpAny_done (by kernel_rfl) ?_ _
                go_wp2_with (fail)
                go_ret
                exact ⟨rfl, h6⟩
          · refine step_ld32 (by rfl) _ rfl g2 rfl hh R2.out HL.out ?_
            refine hK _ _ ?_; clear hK K
            try simp only [List.getElem_toArray, List.getElem_cons_zero, List.getElem_cons_succ, Act.put, List.setIfInBounds_toArray, List.set_cons_zero, List.set_cons_succ]
            refine wpAny_ready (rs := [3]) (by kernel_rfl) (by simp) ?_
            refine AllReady.cons rfl (fun K hK => ?_) AllReady.nil
            refine step_ld32 (by rfl) _ rfl g1 rfl hh R19.out HL.out ?_
            refine hK _ _ ?_; clear hK K
            try simp only [List.getElem_toArray, List.getElem_cons_zero, List.getElem_cons_succ, Act.put, List.setIfInBounds_toArray, List.set_cons_zero, List.set_cons_succ]
            refine wpAny_take (i := 5) (v := .bool true) rfl (by kernel_rfl) (by kernel_rfl) (by kernel_rfl) (fun _ _ _ h => h) (Or.inl ⟨by rfl, ?_⟩) ?_
            · intro w; go_simp
            try simp only [List.getElem_toArray, List.getElem_cons_zero, List.getElem_cons_succ, Act.put, List.setIfInBounds_toArray, List.set_cons_zero, List.set_cons_succ]
            refine wpAny_take (i := 6) (v := .bool true) rfl (by kernel_rfl) (by kernel_rfl) (by kernel_rfl) (fun _ _ _ h => h) (Or.inl ⟨by rfl, ?_⟩) ?_
            · intro w; go_simp
            try simp only [List.getElem_toArray, List.getElem_cons_zero, List.getElem_cons_succ, Act.put, List.setIfInBounds_toArray, List.set_cons_zero, List.set_cons_succ]
            refine wpAny_take (i := 7) (v := .bool true) rfl (by kernel_rfl) (by kernel_rfl) (by kernel_rfl) (fun _ _ _ h => h) (Or.inl ⟨by rfl, ?_⟩) ?_
            · intro w; go_simp
            try simp only [List.getElem_toArray, List.getElem_cons_zero, List.getElem_cons_succ, Act.put, List.setIfInBounds_toArray, List.set_cons_zero, List.set_cons_succ]
            refine wpAny_take (i := 8) (v := .slice (some ⟨g1, 0, none⟩) 32 32) rfl (by kernel_rfl) (by kernel_rfl) (by kernel_rfl) (fun _ _ _ h => h) (Or.inl ⟨by rfl, ?_⟩) ?_
            · intro w; go_simp
            try simp only [List.getElem_toArray, List.getElem_cons_zero, List.getElem_cons_succ, Act.put, List.setIfInBounds_toArray, List.set_cons_zero, List.set_cons_succ]
            refine wpAny_take (i := 10) (v := .slice A1 k c1) rfl (by kernel_rfl) (by kernel_rfl) (by kernel_rfl) (fun _ _ _ h => h) (Or.inl ⟨by rfl, ?_⟩) ?_
            · intro w; go_simp
            try simp only [List.getElem_toArray, List.getElem_cons_zero, List.getElem_cons_succ, Act.put, List.setIfInBounds_toArray, List.set_cons_zero, List.set_cons_succ]
            refine wpAny_ready (rs := [9, 11]) (by kernel_rfl) (by simp) ?_
            refine AllReady.cons rfl (fun K hK => ?_) (AllReady.cons rfl (fun K hK => ?_) AllReady.nil)
            · go_simp
              refine hK _ _ ?_; clear hK K
              try simp only [List.getElem_toArray, List.getElem_cons_zero, List.getElem_cons_succ, Act.put, List.setIfInBounds_toArray, List.set_cons_zero, List.set_cons_succ]
              refine wpAny_ready (rs := [11]) (by kernel_rfl) (by simp) ?_
              refine AllReady.cons rfl (fun K hK => ?_) AllReady.nil
              go_simp; go_at_call 16; refine (HCALL.out _ hRD).mono ?_; rintro e w5 ⟨v5, rfl, hc5, hd5, h5⟩
              refine hK _ _ ?_; clear hK K
              try simp only [List.getElem_toArray, List.getElem_cons_zero, List.getElem_cons_succ, Act.put, List.setIfInBounds_toArray, List.set_cons_zero, List.set_cons_succ]
              refine wpAny_ready (rs := [12]) (by kernel_rfl) (by simp) ?_
              refine AllReady.cons rfl (fun K hK => ?_) AllReady.nil
              go_simp
              refine hK _ _ ?_; clear hK K
              try simp only [List.getElem_toArray, List.getElem_cons_zero, List.getElem_cons_succ, Act.put, List.setIfInBounds_toArray, List.set_cons_zero, List.set_cons_succ]
              refine wpAny_take (i := 13) (v := .bool true) rfl (by kernel_rfl) (by kernel_rfl) (by kernel_rfl) (fun _ _ _ h => h) (Or.inl ⟨by rfl, ?_⟩) ?_
              · intro w; go_simp
              try simp only [List.getElem_toArray, List.getElem_cons_zero, List.getElem_cons_succ, Act.put, List.setIfInBounds_toArray, List.set_cons_zero, List.set_cons_succ]
              refine wpAny_take (i := 14) (v := .bool true) rfl (by kernel_rfl) (by kernel_rfl) (by kernel_rfl) (fun _ _ _ h => h) (Or.inl ⟨by rfl, ?_⟩) ?_
              · intro w; go_simp
              try simp only [List.getElem_toArray, List.getElem_cons_zero, List.getElem_cons_succ, Act.put, List.setIfInBounds_toArray, List.set_cons_zero, List.set_cons_succ]
              refine wpAny_take (i := 15) (v := .bool true) rfl (by kernel_rfl) (by kernel_rfl) (by kernel_rfl) (fun _ _ _ h => h) (Or.inl ⟨by rfl, ?_⟩) ?_
              · intro w; go_simp
              try simp only [List.getElem_toArray, List.getElem_cons_zero, List.getElem_cons_succ, Act.put, List.setIfInBounds_toArray, List.set_cons_zero, List.set_cons_succ]
              refine wpAny_ready (rs := [16]) (by kernel_rfl) (by simp) ?_
              refine AllReady.cons rfl (fun K hK => ?_) AllReady.nil
              go_simp; go_at_call 14; refine (HCK.out _ h5).mono ?_; rintro e w6 ⟨rfl, h6⟩
              refine hK _ _ ?_; clear hK K
              try simp only [List.getElem_toArray, List.getElem_cons_zero, List.getElem_cons_succ, Act.put, List.setIfInBounds_toArray, List.set_cons_zero, List.set_cons_succ]
              refine wpAny_take (i := 17) (v := .bool true) rfl (by kernel_rfl) (by kernel_rfl) (by kernel_rfl) (fun _ _ _ h => h) (Or.inl ⟨by rfl, ?_⟩) ?_
              · intro w; go_simp
              try simp only [List.getElem_toArray, List.getElem_cons_zero, List.getElem_cons_succ, Act.put, List.setIfInBounds_toArray, List.set_cons_zero, List.set_cons_succ]
              refine wpAny_take (i := 18) (v := .bool true) rfl (by kernel_rfl) (by kernel_rfl) (by kernel_rfl) (fun _ _ _ h => h) (Or.inl ⟨by rfl, ?_⟩) ?_
              · intro w; go_simp
              try simp only [List.getElem_toArray, List.getElem_cons_zero, List.getElem_cons_succ, Act.put, List.setIfInBounds_toArray, List.set_cons_zero, List.set_cons_succ]
              refine wpAny_done (by kernel_rfl) ?_ _
              go_wp2_with (fail)
              go_ret
              exact ⟨rfl, h6⟩
            · go_simp; go_at_call 16; refine (HCALL.out _ hRD).mono ?_; rintro e w5 ⟨v5, rfl, hc5, hd5, h5⟩
              refine hK _ _ ?_; clear hK K
              try simp only [List.getElem_toArray, List.getElem_cons_zero, List.getElem_cons_succ, Act.put, List.setIfInBounds_toArray, List.set_cons_zero, List.set_cons_succ]
              refine wpAny_ready (rs := [9, 12]) (by kernel_rfl) (by simp) ?_
              refine AllReady.cons rfl (fun K hK => ?_) (AllReady.cons rfl (fun K hK => ?_) AllReady.nil)
              · go_simp
                refine hK _ _ ?_; clear hK K
                try simp only [List.getElem_toArray, List.getElem_cons_zero, List.getElem_cons_succ, Act.put, List.setIfInBounds_toArray, List.set_cons_zero, List.set_cons_succ]
                refine wpAny_ready (rs := [12]) (by kernel_rfl) (by simp) ?_
                refine AllReady.cons rfl (fun K hK => ?_) AllReady.nil
                go_simp
                refine hK _ _ ?_; clear hK K
                try simp only [List.getElem_toArray, List.getElem_cons_zero, List.getElem_cons_succ, Act.put, List.setIfInBounds_toArray, List.set_cons_zero, List.set_cons_succ]
                refine wpAny_take (i := 13) (v := .bool true) rfl (by kernel_rfl) (by kernel_rfl) (by kernel_rfl) (fun _ _ _ h => h) (Or.inl ⟨by rfl, ?_⟩) ?_
                · intro w; go_simp
                try simp only [List.getElem_toArray, List.getElem_cons_zero, List.getElem_cons_succ, Act.put, List.setIfInBounds_toArray, List.set_cons_zero, List.set_cons_succ]
                refine wpAny_take (i := 14) (v := .bool true) rfl (by kernel_rfl) (by kernel_rfl) (by kernel_rfl) (fun _ _ _ h => h) (Or.inl ⟨by rfl, ?_⟩) ?_
                · intro w; go_simp
                try simp only [List.getElem_toArray, List.getElem_cons_zero, List.getElem_cons_succ, Act.put, List.setIfInBounds_toArray, List.set_cons_zero, List.set_cons_succ]
                refine wpAny_take (i := 15) (v := .bool true) rfl (by kernel_rfl) (by kernel_rfl) (by kernel_rfl) (fun _ _ _ h => h) (Or.inl ⟨by rfl, ?_⟩) ?_
                · intro w; go_simp
                try simp only [List.getElem_toArray, List.getElem_cons_zero, List.getElem_cons_succ, Act.put, List.setIfInBounds_toArray, List.set_cons_zero, List.set_cons_succ]
                refine wpAny_ready (rs := [16]) (by kernel_rfl) (by simp) ?_
                refine AllReady.cons rfl (fun K hK => ?_) AllReady.nil
                go_simp; go_at_call 14; refine (HCK.out _ h5).mono ?_; rintro e w6 ⟨rfl, h6⟩
                refine hK _ _ ?_; clear hK K
                try simp only [List.getElem_toArray, List.getElem_cons_zero, List.getElem_cons_succ, Act.put, List.setIfInBounds_toArray, List.set_cons_zero, List.set_cons_succ]
                refine wpAny_take (i := 17) (v := .bool true) rfl (by kernel_rfl) (by kernel_rfl) (by kernel_rfl) (fun _ _ _ h => h) (Or.inl ⟨by rfl, ?_⟩) ?_
                · intro w; go_simp
                try simp only [List.getElem_toArray, List.getElem_cons_zero, List.getElem_cons_succ, Act.put, List.setIfInBounds_toArray, List.set_cons_zero, List.set_cons_succ]
                refine wpAny_take (i := 18) (v := .bool true) rfl (by kernel_rfl) (by kernel_rfl) (by kernel_rfl) (fun _ _ _ h => h) (Or.inl ⟨by rfl, ?_⟩) ?_
                · intro w; go_simp
                try simp only [List.getElem_toArray, List.getElem_cons_zero, List.getElem_cons_succ, Act.put, List.setIfInBounds_toArray, List.set_cons_zero, List.set_cons_succ]
                refine wpAny_done (by kernel_rfl) ?_ _
                go_wp2_with (fail)
                go_ret
                exact ⟨rfl, h6⟩
              · go_simp
                refine hK _ _ ?_; clear hK K
                try simp only [List.getElem_toArray, List.getElem_cons_zero, List.getElem_cons_succ, Act.put, List.setIfInBounds_toArray, List.set_cons_zero, List.set_cons_succ]
                refine wpAny_ready (rs := [9]) (by kernel_rfl) (by simp) ?_
                refine AllReady.cons rfl (fun K hK => ?_) AllReady.nil
                go_simp
                refine hK _ _ ?_; clear hK K
                try simp only [List.getElem_toArray, List.getElem_cons_zero, List.getElem_cons_succ, Act.put, List.setIfInBounds_toArray, List.set_cons_zero, List.set_cons_succ]
                refine wpAny_take (i := 13) (v := .bool true) rfl (by kernel_rfl) (by kernel_rfl) (by kernel_rfl) (fun _ _ _ h => h) (Or.inl ⟨by rfl, ?_⟩) ?_
                · intro w; go_simp
                try simp only [List.getElem_toArray, List.getElem_cons_zero, List.getElem_cons_succ, Act.put, List.setIfInBounds_toArray, List.set_cons_zero, List.set_cons_succ]
                refine wpAny_take (i := 14) (v := .bool true) rfl (by kernel_rfl) (by kernel_rfl) (by kernel_rfl) (fun _ _ _ h => h) (Or.inl ⟨by rfl, ?_⟩) ?_
                · intro w; go_simp
                try simp only [List.getElem_toArray, List.getElem_cons_zero, List.getElem_cons_succ, Act.put, List.setIfInBounds_toArray, List.set_cons_zero, List.set_cons_succ]
                refine wpAny_take (i := 15) (v := .bool true) rfl (by kernel_rfl) (by kernel_rfl) (by kernel_rfl) (fun _ _ _ h => h) (Or.inl ⟨by rfl, ?_⟩) ?_
                · intro w; go_simp
                try simp only [List.getElem_toArray, List.getElem_cons_zero, List.getElem_cons_succ, Act.put, List.setIfInBounds_toArray, List.set_cons_zero, List.set_cons_succ]
                refine wpAny_ready (rs := [16]) (by kernel_rfl) (by simp) ?_
                refine AllReady.cons rfl (fun K hK => ?_) AllReady.nil
                go_simp; go_at_call 14; refine (HCK.out _ h5).mono ?_; rintro e w6 ⟨rfl, h6⟩
                refine hK _ _ ?_; clear hK K
                try simp only [List.getElem_toArray, List.getElem_cons_zero, List.getElem_cons_succ, Act.put, List.setIfInBounds_toArray, List.set_cons_zero, List.set_cons_succ]
                refine wpAny_take (i := 17) (v := .bool true) rfl (by kernel_rfl) (by kernel_rfl) (by kernel_rfl) (fun _ _ _ h => h) (Or.inl ⟨by rfl, ?_⟩) ?_
                · intro w; go_simp
                try simp only [List.getElem_toArray, List.getElem_cons_zero, List.getElem_cons_succ, Act.put, List.setIfInBounds_toArray, List.set_cons_zero, List.set_cons_succ]
                refine wpAny_take (i := 18) (v := .bool true) rfl (by kernel_rfl) (by kernel_rfl) (by kernel_rfl) (fun _ _ _ h => h) (Or.inl ⟨by rfl, ?_⟩) ?_
                · intro w; go_simp
                try simp only [List.getElem_toArray, List.getElem_cons_zero, List.getElem_cons_succ, Act.put, List.setIfInBounds_toArray, List.set_cons_zero, List.set_cons_succ]
                refine wpAny_done (by kernel_rfl) ?_ _
                go_wp2_with (fail)
                go_ret
                exact ⟨rfl, h6⟩
end Go.Proofs.YtdjfklllfbenjaaDoor
