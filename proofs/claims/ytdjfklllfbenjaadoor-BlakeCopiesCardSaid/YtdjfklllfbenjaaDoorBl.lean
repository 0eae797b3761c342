/- Package blake: finish. -/
import Derived.Test.YtdjfklllfbenjaaDoorBk
import Derived.Lib.SliceRun
namespace Go.Proofs.YtdjfklllfbenjaaDoor
open Go.RowKit

theorem infoZU8 : (Tryd.prog.info? 5).map (fun i => (i.zero, i.size, i.bytes)) = some (some (.int .u8 0), 1, 1) := by kernel_rfl
theorem zeroU8 (w : World) : (zeroValue 5).run Tryd.prog w = .ok (.int .u8 0) w := by
  obtain ⟨i0, hi, hz0, hz1, hz2⟩ := info_parts infoZU8
  simp [zeroValue, typeInfo, hi, hz0]
theorem setCells_heap (g : Nat) (t : TypeId) : ∀ (vs : List Value) (o : Nat) (cur : List Value) (w : World), w.heap[g]? = some (.cells cur.toArray t (0, 0)) → o + vs.length ≤ cur.length →
    (w.setCells g o vs).heap[g]? = some (.cells (splice cur o vs).toArray t (0, 0))
  | [], o, cur, w, hg, _ => by simpa [World.setCells, splice] using hg
  | v :: r, o, cur, w, hg, hl => by
    rw [World.setCells]
    have h1 := heap_setCell_same w g o cur.toArray t v hg
    have h2 := setCells_heap g t r (o + 1) (cur.set o v) (w.setCell ⟨g, o, none⟩ v) (by simpa using h1) (by simp at hl ⊢; omega)
    rw [h2]
    congr 2
    unfold splice
    simp only [List.length_cons] at hl ⊢
    rw [List.drop_set, if_pos (by omega), List.take_set, List.take_add_one, List.getElem?_eq_getElem (by omega), show o + 1 + r.length = o + (r.length + 1) by omega]
    simp only [Option.toList_some]
    rw [List.set_append_right _ _ (by simp; omega)]
    simp [List.append_assoc, Nat.min_eq_left (show o ≤ cur.length by omega)]
theorem But.setCells_ (g : Nat) : ∀ (vs : List Value) (o : Nat) (w : World), But g w (w.setCells g o vs)
  | [], _o, w => But.refl g w
  | v :: r, o, w => (But.set_ g o w v).trans (But.setCells_ g r (o + 1) _)
/-- The bytes that wait, without what lies behind them. -/
def cut (x : Hst) : List Int := splice x.rest x.used (List.replicate (64 - x.used) 0)
theorem Inv.final {x : Hst} {h0 msg : List Int} (h : Inv x h0 msg) (hr : x.rest.length = 64) : comprL x.st (wordsL (cut x)) ((x.before + x.used : Nat) : Int) 4294967295 = hashS h0 msg := by
  have hu := h.used
  have hle := h.le
  unfold hashS
  rw [h.st, h.before, show 64 * nb msg.length + x.used = msg.length by omega]
  congr 1
  apply wordsL_congr
  intro k hk
  unfold cut
  rw [at_splice (by rw [List.length_replicate]; omega), at_drop, List.length_replicate]
  split
  · exact h.rest k (by assumption)
  · rw [if_pos (by omega), at_none (a := msg) (by omega)]
    unfold at_
    rw [List.getElem?_replicate]
    split <;> rfl
theorem is_any {w : World} {p : Nat} {x : Hst} (h : HashAt w p x) : Calls Tryd.prog 41 #[.pointer (some ⟨p, 0, none⟩)] w fun e w' => e = .returned (.bool true) ∧ w' = w := by
  have c0 : w.cell? ⟨p, 0, none⟩ = some (.bool true) := (h.cell 0).trans (hcells_0 x)
  go_enter Tryd.func41, Tryd.ntmps41
  go_wp2
  go_ret
  exact ⟨rfl, rfl⟩
theorem isnil_any (w : World) : Calls Tryd.prog 41 #[.pointer none] w fun e w' => e = .returned (.bool false) ∧ w' = w := by
  go_enter Tryd.func41, Tryd.ntmps41
  go_wp2
  go_ret
  exact ⟨rfl, rfl⟩
theorem iszero_any (w : World) (p : Nat) (h : w.cell? ⟨p, 0, none⟩ = some (.bool false)) : Calls Tryd.prog 41 #[.pointer (some ⟨p, 0, none⟩)] w fun e w' => e = .returned (.bool false) ∧ w' = w := by
  go_enter Tryd.func41, Tryd.ntmps41
  go_wp2
  go_ret
  exact ⟨rfl, rfl⟩
set_option maxRecDepth 100000 in
set_option maxHeartbeats 2000000 in
theorem finish_any (x : Hst) (h0 msg : List Int) (w : World) (hx : x.ok) (hi : Inv x h0 msg) (htab : Tabs w) (hm : msg.length < 200000000000) :
    Calls Tryd.prog 43 #[.agg (hcells x).toArray] w fun e w' => e = .returned (.agg (u8s (bytesL (hashS h0 msg)))) ∧ Below w.heap.size w w' := by
  obtain ⟨st, bf, rest, u, hd⟩ := x
  have hu64 : u ≤ 64 := hi.le
  have HF : Hid (comprL st (wordsL (cut ⟨st, bf, rest, u, hd⟩)) ((bf + u : Nat) : Int) 4294967295 = hashS h0 msg) := Lib.hid (hi.final hx.2)
  have hbu : bf + u < 300000000000 := by have h1 := hi.before; have h2 := hi.used; simp only at h1 h2; omega
  have HA : HashAt ((w.alloc (.cells (hcells ⟨st, bf, rest, u, hd⟩).toArray 71)).alloc (.cells (u8s z32) 24)) w.heap.size ⟨st, bf, rest, u, hd⟩ := ⟨heap_alloc2_old w _ _, hx⟩
  have HR := Lib.hid (show U8 ((w.alloc (.cells (hcells ⟨st, bf, rest, u, hd⟩).toArray 71)).alloc (.cells (u8s z32) 24)) (w.heap.size + 1) 24 z32 from heap_alloc2_new w _ _)
  have HB := Lib.hid (show Below w.heap.size w ((w.alloc (.cells (hcells ⟨st, bf, rest, u, hd⟩).toArray 71)).alloc (.cells (u8s z32) 24)) from Go.Proofs.YtdjfklllfbenjaaDoor.Below.next (Below.new w _) (Below.new _ _))
  have HA := Lib.hid HA
  have HT := Lib.hid htab
  have HX := Lib.hid hx
  rw [u8s_z32] at HA HR HB
  have HI := Lib.hid hi
  clear hx hi htab hm
  generalize hH : hcells ⟨st, bf, rest, u, hd⟩ = H at *
  have HH := Lib.hid hH
  clear hH
  go_enter Tryd.func43, Tryd.ntmps43
  go_upto_region 1 with (fail)
  generalize (w.alloc (.cells H.toArray 71)).alloc (.cells #[.int .u8 0, .int .u8 0, .int .u8 0, .int .u8 0, .int .u8 0, .int .u8 0, .int .u8 0, .int .u8 0, .int .u8 0, .int .u8 0, .int .u8 0, .int .u8 0, .int .u8 0, .int .u8 0, .int .u8 0, .int .u8 0, .int .u8 0, .int .u8 0, .int .u8 0, .int .u8 0, .int .u8 0, .int .u8 0, .int .u8 0, .int .u8 0, .int .u8 0, .int .u8 0, .int .u8 0, .int .u8 0, .int .u8 0, .int .u8 0, .int .u8 0, .int .u8 0] 24) = W at *
  generalize hp : w.heap.size = p at *
  have HPP := Lib.hid hp
  have HP : Hid (2 ≤ p) := Lib.hid (hp ▸ HT.out.lt)
  have e74 := (HA.out.cell 74).trans (hcells_used HX.out)
  have hcl0 : ∀ ty, (Builtin.clear_ #[22] ty #[.slice (some ⟨p, 10, none⟩) 0 0]).run Tryd.prog W = .ok (.tuple #[]) W := by
    intro ty
    simp [Builtin.clear_, run_underlying Tryd.underlying22]
  have hcl1 : ∀ ty, u < 64 → (Builtin.clear_ #[22] ty #[.slice (some ⟨p, 10 + u, none⟩) (64 - u) (64 - u)]).run Tryd.prog W = .ok (.tuple #[]) (W.setCells p (10 + u) (List.replicate (64 - u) (.int .u8 0))) := fun ty hu =>
    Lib.run_clear_slice W _ _ ty _ Tryd.underlying22 zeroU8 rfl rfl p (10 + u) _ _ (by omega) (fun j hj => by
      rw [HA.out.cell, show 10 + u + j = 10 + (u + j) by omega, hcells_rest HX.out (u + j) (by omega)]; rfl) (fun j hj => HA.out.free _)
  have HC1 : Hid (HashAt (W.setCells p (10 + u) (List.replicate (64 - u) (.int .u8 0))) p ⟨st, bf, cut ⟨st, bf, rest, u, hd⟩, u, hd⟩) := Lib.hid (by
    have h := setCells_heap p 71 (List.replicate (64 - u) (.int .u8 0)) (10 + u) _ W HA.out.1 (by rw [hcells_len HX.out, List.length_replicate]; omega)
    rw [show List.replicate (64 - u) (Value.int .u8 0) = (List.replicate (64 - u) (0 : Int)).map (Value.int .u8) by simp] at h ⊢
    exact hash_copied HA.out u (List.replicate (64 - u) 0) (by rw [List.length_replicate]; omega) h)
  have HB1 := Lib.hid (But.setCells_ p (List.replicate (64 - u) (.int .u8 0)) (10 + u) W)
  have HEQ : Hid (u = 64 → cut ⟨st, bf, rest, u, hd⟩ = rest) := Lib.hid fun hu => by
    subst hu
    unfold cut splice
    have := HX.out.2
    simp only at this
    simp
  go_cut [] from 3 to 6 (fun wx => Hid (HashAt wx p ⟨st, bf, cut ⟨st, bf, rest, u, hd⟩, u, hd⟩) ∧ Hid (But p W wx))
  case first =>
    by_cases g : u = 64
    · have e := HEQ.out g
      subst g
      have e74 : W.cell? ⟨p, 74, none⟩ = some (.int .i64 64) := e74
      clear hcl1 HC1 HB1
      go_wp2_with (fail)
      go_meet
      exact ⟨Lib.hid (by rw [e]; exact HA.out), Lib.hid (But.refl p W)⟩
    · have u64 : (u : Int) < 64 := by omega
      have u65 : (u : Int) ≤ 64 := by omega
      have u66 : (0 : Int) ≤ u := by omega
      have u67 : ¬ 64 < u := by omega
      have u68 : ¬ 64 = u := by omega
      have hcl := fun ty => hcl1 ty (by omega)
      clear hcl1 hcl0
      go_wp2_with (fail)
      go_meet
      exact ⟨HC1, HB1⟩
  case rest =>
  obtain ⟨hy, hb⟩ := hcut
  have HY := hy
  obtain ⟨S, HS⟩ : ∃ S, st = S := ⟨_, rfl⟩
  obtain ⟨s0, s1, s2, s3, s4, s5, s6, s7, HL⟩ := list8 (show S.length = 8 by rw [← HS]; exact HX.out.1)
  have d0 : wc.cell? ⟨p, 1, none⟩ = some (.int .u32 s0) := (hy.out.cell 1).trans ((hcells_st hy.out.2 0 (by omega)).trans (by show some (Value.int .u32 (at_ st 0)) = _; rw [HS, HL]; rfl))
  have d1 : wc.cell? ⟨p, 2, none⟩ = some (.int .u32 s1) := (hy.out.cell 2).trans ((hcells_st hy.out.2 1 (by omega)).trans (by show some (Value.int .u32 (at_ st 1)) = _; rw [HS, HL]; rfl))
  have d2 : wc.cell? ⟨p, 3, none⟩ = some (.int .u32 s2) := (hy.out.cell 3).trans ((hcells_st hy.out.2 2 (by omega)).trans (by show some (Value.int .u32 (at_ st 2)) = _; rw [HS, HL]; rfl))
  have d3 : wc.cell? ⟨p, 4, none⟩ = some (.int .u32 s3) := (hy.out.cell 4).trans ((hcells_st hy.out.2 3 (by omega)).trans (by show some (Value.int .u32 (at_ st 3)) = _; rw [HS, HL]; rfl))
  have d4 : wc.cell? ⟨p, 5, none⟩ = some (.int .u32 s4) := (hy.out.cell 5).trans ((hcells_st hy.out.2 4 (by omega)).trans (by show some (Value.int .u32 (at_ st 4)) = _; rw [HS, HL]; rfl))
  have d5 : wc.cell? ⟨p, 6, none⟩ = some (.int .u32 s5) := (hy.out.cell 6).trans ((hcells_st hy.out.2 5 (by omega)).trans (by show some (Value.int .u32 (at_ st 5)) = _; rw [HS, HL]; rfl))
  have d6 : wc.cell? ⟨p, 7, none⟩ = some (.int .u32 s6) := (hy.out.cell 7).trans ((hcells_st hy.out.2 6 (by omega)).trans (by show some (Value.int .u32 (at_ st 6)) = _; rw [HS, HL]; rfl))
  have d7 : wc.cell? ⟨p, 8, none⟩ = some (.int .u32 s7) := (hy.out.cell 8).trans ((hcells_st hy.out.2 7 (by omega)).trans (by show some (Value.int .u32 (at_ st 7)) = _; rw [HS, HL]; rfl))
  have HU : Hid (#[Value.int .u32 s0, .int .u32 s1, .int .u32 s2, .int .u32 s3, .int .u32 s4, .int .u32 s5, .int .u32 s6, .int .u32 s7] = u32s st) := Lib.hid (by rw [HS, HL]; rfl)
  have c9 : wc.cell? ⟨p, 9, none⟩ = some (.int .u64 bf) := (hy.out.cell 9).trans (hcells_before hy.out.2)
  have c74 : wc.cell? ⟨p, 74, none⟩ = some (.int .i64 u) := (hy.out.cell 74).trans (hcells_used hy.out.2)
  have HRR := Lib.hid (U8.but HR.out hb.out (by omega))
  have HBB := Lib.hid (HB.out.trans (hb.out.below (Nat.le_refl _) (Nat.le_of_lt HA.out.lt)))
  have HTT := Lib.hid (HT.out.below HBB.out HP.out)
  have hwr1 : IntKind.u64.wrap (u : Int) = u := by rw [IntKind.wrap_u64]; omega
  have hwr2 : IntKind.u64.wrap ((bf : Int) + u) = (bf : Int) + u := by rw [IntKind.wrap_u64]; omega
  clear HS HL hcl0 hcl1 HC1 HB1 HEQ e74 hb HR HB HA HX HI HT hu64
  go_wp2_with (fail)
  go_still_tail 10, (by kernel_rfl)
  change wpList _ _ _ _ _ wc.drew
  go_wp2_with (fail)
  rw [HU.out, show (bf : Int) + u = ((bf + u : Nat) : Int) by omega]
  have HST : Hid (st.length = 8) := Lib.hid HY.out.2.1
  refine (compress_any p 10 64 st (cut ⟨st, bf, rest, u, hd⟩) ((bf + u : Nat) : Int) 4294967295 wc.drew HST.out (fun k hk => (HY.out.cell _).trans (hcells_rest HY.out.2 k hk)) (Nat.le_refl _) HTT.out.drew).mono ?_
  rintro e w2 ⟨rfl, hq2⟩
  rw [HF.out]
  have HS8 : Hid ((hashS h0 msg).length = 8) := Lib.hid (comprL_len _ _ _ _)
  have hsz := HRR.out.lt
  have HR2 := Lib.hid (HRR.out.below (undrew hq2) hsz)
  have HB2 := Lib.hid (HBB.out.trans ((undrew hq2).mono (by show p ≤ wc.heap.size; omega)))
  have hs2 : p + 1 < w2.heap.size := HR2.out.lt
  clear hq2 HRR HBB HTT d0 d1 d2 d3 d4 d5 d6 d7 c9 c74 HU HY HF hsz
  generalize hRR : hashS h0 msg = R at *
  have HRQ := Lib.hid hRR
  clear hRR
  go_wp2_with (fail)
  refine (bytesOf_any R HS8.out w2).mono ?_
  rintro e w3 ⟨rfl, hq3⟩
  have HR3 := Lib.hid (HR2.out.below hq3 hs2)
  have HB3 := Lib.hid (below_setRow (g := p + 1) (cs := u8s (bytesL R)) (HB2.out.trans (hq3.mono (by omega))) (by omega))
  clear hq3 HR2 HB2
  go_wp2_with (refine st32 rfl _ _ rfl _ rfl _ _ rfl HR3.out (bytesL_len R) rfl ?_)
  exact bodyPost_ret (res_32 rfl _ _ (p + 1) _ rfl HR3.out.setRow (bytesL_len R)) rfl ⟨by rw [HRQ.out], by rw [HPP.out]; exact HB3.out⟩
end Go.Proofs.YtdjfklllfbenjaaDoor
