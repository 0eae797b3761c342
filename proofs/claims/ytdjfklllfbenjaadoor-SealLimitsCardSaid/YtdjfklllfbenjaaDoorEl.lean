/- The reference: Seal. -/
import Derived.Test.YtdjfklllfbenjaaDoorEk
import Derived.Deep.RegionHeld3
import Derived.Maps.AppendAt
namespace Go.Proofs.YtdjfklllfbenjaaDoor
open Go.RowKit

theorem one_cell (w : World) (y : Int) : ∀ j, j < [y].length → ((w.alloc (.cells #[.int .u8 y] 5)).drew).cell? ⟨w.heap.size, j, none⟩ = some (.int .u8 (at_ [y] j)) := by
  intro j hj
  match j, hj with
  | 0, _ => rw [cell_of_row (w.alloc _).drew _ _ _ 5 (0, 0) (heap_alloc_new w _)]; rfl
/-- append of some bytes of the call's own, inside a region that draws its order: where the new slice lies. -/
theorem stepB5 {ops : Array Oper} {o : Oper} {a : Act} {K : Act → World → Prop} {Q : Exit → Act → World → Prop} {E : Prop} {w W : World} {B : Nat} {v : Value} {ds : List Int}
    (hgd : o.guard = none) (s x : Operand) (T : TypeId) (hop : o.op = Op.call { callee := Callee.builtin Builtin.append, args := #[s, x], argTypes := #[T, T] }) (hT : Tryd.prog.underlying T = some (.slice 5))
    (hs : a.eval s = v) (hown : Own w B v ds) (hb : Below B W w) (hB : B ≤ w.heap.size) (g : Nat) (es : List Int) (m : Nat) (hx : a.eval x = .slice (some ⟨g, 0, none⟩) m m) (hm : es.length = m) (hy : ∀ j, j < es.length → w.cell? ⟨g, j, none⟩ = some (.int .u8 (at_ es j)))
    (hn : ds.length + m < 1000000000000) (hK : ∀ v' w', Own w' B v' (ds ++ es) → Below B W w' → w.grownBy w' v.ownBlock → (v'.ownBlock = v.ownBlock ∨ v'.ownBlock = some w.heap.size) → K (a.put o.dst v') w') :
    if Region.wanted o (yielded ops a.tmps) = true then Oper.wp Tryd.prog o a w K Q else E := by
  subst hm
  obtain ⟨i0, hi, hz0, hz1, hz2⟩ := info_parts infoZU8
  have hw : Region.wanted o (yielded ops a.tmps) = true := by simp [Region.wanted, hgd]
  rw [if_pos hw]
  obtain ⟨v', w', hr, h2, h3, -, h5⟩ := run_append_own_at (P := Tryd.prog) w B T o.type 5 i0 (.int .u8 0) 1 1 hT hi hz0 hz1 hz2 rfl (by decide) v ds.length _ hown ⟨g, 0, none⟩ es.length es.length (es.map (Value.int .u8)) (by simp) (by
    intro j u hj
    have hjl : j < es.length := by have := (List.getElem?_eq_some_iff.1 hj).1; simpa using this
    rw [Addr.add_mid, Nat.zero_add, hy j hjl, ← hj]
    simp [at_, hjl]) (oneU8 es) (by unfold maxLen; omega) (by omega) hB
  unfold Oper.wp execOp
  simp only [hop, resolve, invoke, builtin, Sem.run_bind, Sem.run_pure, Result.andThen_ok, List.map_toArray, List.map_cons, List.map_nil, hs, hx, hr]
  refine hK v' w' ?_ ?_ h3 h5
  · unfold Own
    simpa using h2
  · exact hb.grown h3 hB fun k hk => (World.ownsRow.lt hown k hk).1
theorem xorL_take (m b : List Int) (i : Nat) (hi : i < b.length) : (xorL m b).take i ++ [x8 (at_ b i) (at_ m i)] = (xorL m b).take (i + 1) := by
  rw [List.take_add_one, List.getElem?_eq_getElem (by rw [xorL_len]; exact hi), x8_comm]
  simp [xorL]
set_option maxRecDepth 100000 in
set_option maxHeartbeats 8000000 in
theorem rseal_any (A B D : Option Addr) (n0 c m cb l cd : Nat) (kd nd pd : List Int) (w : World) (hkl : kd.length = n0) (hn0 : n0 ≤ 32) (hA : A = none → c = 0) (hk : PartAt w w.heap.size (.slice A n0 c) kd) (hnl : nd.length = m) (hm : m < 1000) (hB : B = none → cb = 0) (hb : PartAt w w.heap.size (.slice B m cb) nd)
    (hdl : pd.length = l) (hl : l ≤ 65504) (hd : PartAt w w.heap.size (.slice D l cd) pd) :
    Calls Tryd.prog 30 #[.slice A n0 c, .slice B m cb, .slice D l cd] w fun e w' => (∃ v, e = .returned v ∧ Own w' w.heap.size v (sealL kd nd pd)) ∧ Below w.heap.size w w' := by
  have HK := Lib.hid hk
  have HB := Lib.hid hb
  have HD := Lib.hid hd
  have KL := Lib.hid hkl
  have NL := Lib.hid hnl
  have DL := Lib.hid hdl
  have XA := Lib.hid hA
  have XB := Lib.hid hB
  clear hk hb hd hkl hnl hdl hA hB
  have OE : Hid (Own (w.alloc (.cells #[] 5)) w.heap.size (.slice (some ⟨w.heap.size, 0, none⟩) 0 0) []) := Lib.hid (Own.new0 w)
  have BE : Hid (Below w.heap.size w (w.alloc (.cells #[] 5))) := Lib.hid (Below.new w _)
  have PB := Lib.hid (HB.out.later BE.out BE.out.size)
  go_enter Tryd.func30, Tryd.ntmps30
  go_upto_region 2 with (at_builtin; refine appBs rfl _ _ _ rfl Tryd.underlying22 rfl OE.out BE.out BE.out.size B m cb (w.alloc (.cells #[] 5)).heap.size nd rfl XB.out PB.out NL.out (by simp; omega) ?_; intro v1 w1 o1 b1 k1)
  rw [List.nil_append] at o1
  have O1 := Lib.hid o1
  have B1 := Lib.hid b1
  have S1 := Lib.hid b1.size
  have HC := Lib.hid (rstream_any A B n0 c m cb l kd nd w1 KL.out hn0 XA.out (HK.out.later b1 b1.size) NL.out hm XB.out (HB.out.later b1 b1.size) hl)
  obtain ⟨A1, c1, rfl, -⟩ := o1.shape
  clear o1 b1 k1 OE BE PB
  go_wp2_with (fail)
  refine HC.out.mono ?_
  rintro e w2 ⟨⟨vs, rfl, o2⟩, b2⟩
  have HS := Lib.hid o2.part
  have HNB : Hid (∀ b o, vs.ownBlock = some b → (Value.slice A1 o c1).ownBlock ≠ some b) := Lib.hid fun b o hb he => by
    have h1 := (World.ownsRow.lt o2 b hb).1
    have h2 := (World.ownsRow.lt O1.out b (by cases A1 <;> exact he)).2
    omega
  have O2 : Hid (Own w2 w.heap.size (.slice A1 nd.length c1) (nd ++ (maskL kd nd pd).take 0)) := Lib.hid (by rw [List.take_zero, List.append_nil]; exact O1.out.below b2)
  have B2 := Lib.hid (B1.out.trans (b2.mono S1.out))
  have HD2 := Lib.hid (HD.out.later B2.out B2.out.size)
  have hsl : (streamL kd nd l).length = l := streamL_len _ _ _
  obtain ⟨As, cs, rfl, -⟩ := o2.shape
  rw [hsl] at HS ⊢
  clear o2 b2 O1 B1 S1 HC
  obtain ⟨st, hst⟩ : ∃ st, streamL kd nd l = st := ⟨_, rfl⟩
  rw [hst] at HS hsl
  obtain ⟨ml, hml⟩ : ∃ ml, maskL kd nd pd = ml := ⟨_, rfl⟩
  have HM : Hid (∀ i, i < l → ml.take i ++ [x8 (at_ pd i) (at_ st i)] = ml.take (i + 1)) := Lib.hid fun i hi => by
    rw [← hml, ← hst]
    have := xorL_take (streamL kd nd pd.length) pd i (by rw [DL.out]; exact hi)
    rw [DL.out] at this
    unfold maskL
    rw [DL.out]
    exact this
  have ML : Hid (ml.length = l) := Lib.hid (by rw [← hml, maskL_len, DL.out])
  have HF : Hid (sealL kd nd pd = (nd ++ ml) ++ tagL kd (nd ++ ml)) := Lib.hid (by rw [← hml]; rfl)
  rw [hml] at O2
  have SL := Lib.hid hsl
  clear hst hml hsl
  rw [NL.out] at O2 ⊢
  go_wp2_with (fail)
  go_loopw [7, 9] (fun v i wx => ∃ k : Nat, k ≤ l ∧ i = .int .i64 (k : Int) ∧ Hid (Own wx w.heap.size v (nd ++ ml.take k)) ∧ Hid (Below w.heap.size w wx) ∧ Hid (w2.heap.size ≤ wx.heap.size ∧ ∀ b, (Value.slice As l cs).ownBlock = some b → wx.heap[b]? = w2.heap[b]? ∧ v.ownBlock ≠ some b)) (fun _ i _ => l - (intOf i).toNat)
  case atStart => exact ⟨0, by omega, rfl, O2, B2, Lib.hid ⟨Nat.le_refl _, fun b hb => ⟨rfl, HNB.out b _ (by cases As <;> exact hb)⟩⟩⟩
  case round =>
    obtain ⟨k, hk, rfl, ho, hbl, hst⟩ := hrel
    clear O2
    obtain ⟨A2, c2, rfl, hA2⟩ := ho.out.shape
    have hl1 : (nd ++ ml.take k).length = m + k := by rw [List.length_append, List.length_take, ML.out, NL.out]; omega
    rw [hl1] at ho hst ⊢
    have HL1 := Lib.hid hl1
    have HA2 := Lib.hid hA2
    clear hA2
    by_cases g : k < l
    · have gI : (k : Int) < l := by omega
      obtain ⟨b1, o1, rfl, hb1, hc1⟩ := HD.out.cell_ (by rw [DL.out]; omega)
      have e1w := hc1 k (by rw [DL.out]; exact g)
      have e1 := kept_cell hbl.out e1w hb1
      obtain ⟨b2, o2, rfl, hb2, hc2⟩ := HS.out.cell_ (by rw [SL.out]; omega)
      have hbk := (hst.out.2 b2 rfl).1
      have e2w := hc2 k (by rw [SL.out]; exact g)
      have e2 : wr.cell? ⟨b2, o2 + k, none⟩ = some (.int .u8 (at_ st k)) := (World.cell?_of_block (a := ⟨b2, o2 + k, none⟩) hbk).trans e2w
      have hm1 := HM.out k g
      obtain ⟨y, hy⟩ : ∃ y, x8 (at_ pd k) (at_ st k) = y := ⟨_, rfl⟩
      rw [hy] at hm1
      have HM1 := Lib.hid hm1
      have hx : bits .xor .u8 (at_ pd k) (at_ st k) = y := hy
      generalize at_ pd k = u1 at *
      generalize at_ st k = u2 at *
      have hsz : w.heap.size ≤ wr.heap.size := hbl.out.size
      have hb2r : b2 < wr.heap.size := Nat.lt_of_lt_of_le hb2 hst.out.1
      have HC0 : Hid (∀ w', Below wr.heap.size wr w' → w'.cell? ⟨b1, o1 + k, none⟩ = some (.int .u8 u1) ∧ w'.cell? ⟨b2, o2 + k, none⟩ = some (.int .u8 u2)) := Lib.hid fun w' h => ⟨kept_cell h e1 (block_lt_of_cell e1), kept_cell h e2 (block_lt_of_cell e2)⟩
      have HGR : Hid (∀ w9, (wr.alloc (.cells #[.int .u8 y] 5)).drew.grownBy w9 (Value.slice A2 (m + k) c2).ownBlock → w9.heap[b2]? = w2.heap[b2]?) := Lib.hid fun w9 h => (h.block b2 (by show b2 < (wr.heap.push _).size; rw [Array.size_push]; omega) (fun e => (hst.out.2 b2 rfl).2 e.symm)).trans ((Below.heap_alloc wr _ b2 hb2r).trans hbk)
      have HC9 : Hid (∀ w9, Below w.heap.size w w9 → (wr.alloc (.cells #[.int .u8 y] 5)).drew.grownBy w9 (Value.slice A2 (m + k) c2).ownBlock → w9.cell? ⟨b1, o1 + k, none⟩ = some (.int .u8 u1) ∧ w9.cell? ⟨b2, o2 + k, none⟩ = some (.int .u8 u2)) := Lib.hid fun w9 h h9 => ⟨kept_cell h e1w hb1, (World.cell?_of_block (a := ⟨b2, o2 + k, none⟩) (HGR.out w9 h9)).trans e2w⟩
      have HBN : Hid (b2 < wr.heap.size ∧ (Value.slice A2 (m + k) c2).ownBlock ≠ some b2 ∧ w2.heap.size ≤ wr.heap.size) := Lib.hid ⟨hb2r, (hst.out.2 b2 rfl).2, hst.out.1⟩
      clear hy hm1 hc1 hc2 hl1 hst hbk e1w e2w hb1 hb2 hb2r
      go_wp2_with (fail)
      go_region_held3 (fun w' => w'.cell? ⟨b1, o1 + k, none⟩ = some (.int .u8 u1) ∧ w'.cell? ⟨b2, o2 + k, none⟩ = some (.int .u8 u2)) (first | exact ⟨e1, e2⟩ | exact HC0.out _ (Below.refl _ _).drew | exact HC0.out _ ((Below.refl _ _).alloc (Nat.le_refl _) _).drew | exact HC9.out _ h2 h3)
        (first | (refine stepB5 rfl _ _ _ rfl Tryd.underlying22 rfl (by first | exact (ho.out.keep (fun g hg => Below.heap_alloc wr _ g hg))) (W := w) (by first | exact (hbl.out.alloc hsz _).drew) (by simp; omega) wr.heap.size [y] 1 rfl rfl (one_cell wr y) (by rw [HL1.out]; omega) ?_; intro v9 w9 h1 h2 h3 h4))
      have HO9 : Hid (Own w9 w.heap.size v9 (nd ++ ml.take (k + 1))) := Lib.hid (by rw [← HM1.out, ← List.append_assoc]; exact h1)
      have HB9 := Lib.hid h2
      have HN9 : Hid (w2.heap.size ≤ w9.heap.size ∧ ∀ b, (Value.slice (some ⟨b2, o2, none⟩) l cs).ownBlock = some b → w9.heap[b]? = w2.heap[b]? ∧ v9.ownBlock ≠ some b) := Lib.hid (by
        have hz := h3.size
        have hz2 : (wr.alloc (.cells #[.int .u8 y] 5)).drew.heap.size = wr.heap.size + 1 := by show (wr.heap.push _).size = _; rw [Array.size_push]
        refine ⟨by have := HBN.out.2.2; omega, fun b hb => ?_⟩
        obtain rfl : b2 = b := by simpa [Value.ownBlock] using hb
        refine ⟨HGR.out w9 h3, fun e => ?_⟩
        rcases h4 with h4 | h4
        · exact HBN.out.2.1 (h4.symm.trans e)
        · rw [h4] at e
          injection e with e
          have := HBN.out.1
          omega)
      clear h1 h2 h3 h4 ho hbl e1 e2 HC0 HGR HC9 HBN hsz hx
      go_wp2_with (fail)
      go_roundw
      case rel => exact ⟨k + 1, by omega, by go_num, HO9, HB9, HN9⟩
      case measure => simp [intOf]; omega
    · obtain rfl : k = l := by omega
      rw [List.take_of_length_le (by rw [ML.out]; exact Nat.le_refl _)] at ho HL1
      have hlen : (nd ++ ml).length = m + k := HL1.out
      have HC3 := Lib.hid (rtag_any A A2 n0 c (m + k) c2 kd (nd ++ ml) wr KL.out hn0 XA.out (HK.out.later hbl.out hbl.out.size) HA2.out ho.out.part hlen (by omega))
      have O3 := Lib.hid ho.out
      have B3 := Lib.hid hbl.out
      have S3 := Lib.hid hbl.out.size
      clear ho hbl hst hl1 hlen HA2
      go_wp2_with (fail)
      refine HC3.out.mono ?_
      rintro e w4 ⟨⟨g4, c4, rfl, o4⟩, b4⟩
      have P4 := Lib.hid o4.part
      have O4 := Lib.hid (O3.out.below b4)
      have B4 := Lib.hid (B3.out.trans (b4.mono S3.out))
      have S4 := Lib.hid (Nat.le_trans S3.out b4.size)
      clear o4 b4 O3 B3 S3 HC3
      go_wp2_with (at_builtin; refine appBs rfl _ _ _ rfl Tryd.underlying22 rfl O4.out B4.out S4.out (some ⟨g4, 0, none⟩) 16 c4 w4.heap.size (tagL kd (nd ++ ml)) rfl (fun e => by cases e) P4.out (tagL_len _ _) (by rw [HL1.out]; omega) ?_; intro v6 w6 o6 b6 k6)
      have O6 : Hid (Own w6 w.heap.size v6 (sealL kd nd pd)) := Lib.hid (by rw [HF.out]; exact o6)
      have B6 := Lib.hid b6
      clear o6 b6 k6 O4 B4 S4 P4
      go_wp2_with (fail)
      go_ret
      exact ⟨⟨_, rfl, O6.out⟩, B6.out⟩
end Go.Proofs.YtdjfklllfbenjaaDoor
