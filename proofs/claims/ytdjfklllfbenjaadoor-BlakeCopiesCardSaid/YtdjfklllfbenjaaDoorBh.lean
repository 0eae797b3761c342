/- Package blake: compressNext. -/
import Derived.Test.YtdjfklllfbenjaaDoorBe
import Derived.Test.YtdjfklllfbenjaaDoorBg
import Derived.StillTailTactics
namespace Go.Proofs.YtdjfklllfbenjaaDoor
open Go.RowKit

theorem info8n (s : List Int) (h : s.length = 8) : (Tryd.prog.info? 67).map (·.size) = some (s.map (Value.int .u32)).length := by
  rw [List.length_map, h]; kernel_rfl
theorem oneU32 (s : List Int) : ∀ v ∈ s.map (Value.int .u32), v.oneCell' = true := by
  intro v hv; obtain ⟨z, _, rfl⟩ := List.mem_map.1 hv; rfl
/-- The state is read out of the computation. -/
theorem HashAt.ldst {w : World} {p : Nat} {x : Hst} (h : HashAt w p x) : (Instr.loadAt 67 (.pointer (some ⟨p, 1, none⟩))).run Tryd.prog w = .ok (.agg (u32s x.st)) w :=
  run_loadAt_mid w p 1 67 (x.st.map (Value.int .u32)) _ h.stRange Tryd.underlying67 rfl (info8n x.st h.2.1)
theorem HashAt.stst {w : World} {p : Nat} {x : Hst} (h : HashAt w p x) (s : List Int) (hs : s.length = 8) : (Instr.storeAt 67 (.pointer (some ⟨p, 1, none⟩)) (.agg (u32s s))).run Tryd.prog w = .ok () (w.setRow p (hcells { x with st := s }).toArray) := by
  rw [← splice_st h.2 s hs]
  exact run_storeAt_splice h.1 (info8n s hs) (by rw [hcells_len h.2, List.length_map, hs]; omega) (oneU32 s)
theorem list8 {xs : List Int} (h : xs.length = 8) : ∃ a b c d e f g i, xs = [a, b, c, d, e, f, g, i] := by
  match xs, h with
  | [a, b, c, d, e, f, g, i], _ => exact ⟨a, b, c, d, e, f, g, i, rfl⟩
theorem run_stst {w : World} {p : Nat} {x : Hst} (h : HashAt w p x) (s : List Int) (hs : s.length = 8) : Sem.run Tryd.prog (storeCells ⟨p, 1, none⟩ (u32s s).toList) w = .ok () (w.setRow p (hcells { x with st := s }).toArray) := by
  have := run_storeCells_at (P := Tryd.prog) p 1 71 (s.map (Value.int .u32)) 0 (hcells x).toArray w h.1 (by rw [List.size_toArray, hcells_len h.2, List.length_map, hs]; omega) (oneU32 s)
  have e : ((hcells x).toArray.toList.take (1 + 0) ++ s.map (Value.int .u32) ++ (hcells x).toArray.toList.drop (1 + 0 + (s.map (Value.int .u32)).length)) = hcells { x with st := s } := by
    rw [← splice_st h.2 s hs, List.append_assoc]
    rfl
  rw [e] at this
  exact this
/-- A quiet load of any kind, given its run. -/
theorem still_load {ops : Array Oper} {rest : List Oper} {o : Oper} {a : Act} {w : World} {Q : Act → Prop} (hgd : o.guard = none) (ty : TypeId) (x : Operand) (ho : o.op = .load ty x) (b k : Nat) (hx : a.eval x = .pointer (some ⟨b, k, none⟩)) (v : Value)
    (hr : (Instr.loadAt ty (.pointer (some ⟨b, k, none⟩))).run Tryd.prog w = .ok v w) (h : wpStill Tryd.prog ops w Q rest (a.put o.dst v)) : wpStill Tryd.prog ops w Q (o :: rest) a := by
  unfold wpStill
  rw [if_pos (by simp [Region.wanted, hgd])]
  unfold Oper.still execOp
  simp only [ho, hx, Sem.run_bind, hr, Result.andThen_ok, Sem.run_pure, Oper.stillUpon]
  exact ⟨trivial, h⟩
set_option maxRecDepth 100000 in
set_option maxHeartbeats 2000000 in
theorem next_any (p b o c : Nat) (ds : List Int) (x : Hst) (w : World) (h : HashAt w p x) (hc : ∀ k, k < 64 → w.cell? ⟨b, o + k, none⟩ = some (.int .u8 (at_ ds k))) (h64 : 64 ≤ c) (hp : 2 ≤ p) (htab : Tabs w) (hb : b = p → 10 ≤ o) (hm : x.before < 1000000000000) :
    Calls Tryd.prog 58 #[.pointer (some ⟨p, 0, none⟩), .slice (some ⟨b, o, none⟩) 64 c] w fun e w' => e = .returned (.tuple #[]) ∧
      HashAt w' p { x with before := x.before + 64, st := comprL x.st (wordsL ds) ((x.before + 64 : Nat) : Int) 0 } ∧ But p w w' := by
  have HX := Lib.hid h
  have HC := Lib.hid hc
  have HT := Lib.hid htab
  have HB := Lib.hid hb
  have c9 := (h.cell 9).trans (hcells_before h.2)
  have f9 := h.free 9
  have hlt := h.lt
  clear h hc htab hb
  go_enter Tryd.func58, Tryd.ntmps58
  have hw : IntKind.u64.wrap ((x.before : Int) + 64) = (x.before : Int) + 64 := by rw [IntKind.wrap_u64]; omega
  go_wp2_with (fail)
  rw [show (x.before : Int) + 64 = ((x.before + 64 : Nat) : Int) by omega]
  obtain ⟨nb, HNB⟩ : ∃ z, z = x.before + 64 := ⟨_, rfl⟩
  rw [← HNB]
  replace HNB := Lib.hid HNB
  have H1 := Lib.hid (show HashAt (w.setCell ⟨p, 9, none⟩ (.int .u64 nb)) p { x with before := nb } from HX.out.to (x' := { x with before := nb }) HX.out.2 9 _ (set_before HX.out.2 nb))
  have HC1 : Hid (∀ k, k < 64 → (w.setCell ⟨p, 9, none⟩ (.int .u64 nb)).cell? ⟨b, o + k, none⟩ = some (.int .u8 (at_ ds k))) := Lib.hid fun k hk => by
    rw [World.cell?_setCell_other]
    · exact HC.out k hk
    · intro e
      have e1 := congrArg Addr.block e
      have e2 := congrArg Addr.off e
      simp at e1 e2
      have := HB.out (by omega)
      omega
  have HB1 := Lib.hid (But.set_ p 9 w (.int .u64 nb))
  have HT1 : Hid (Tabs (w.setCell ⟨p, 9, none⟩ (.int .u64 nb))) := Lib.hid (HT.out.below (HB1.out.below (B := p) (Nat.le_refl _) (by omega)) hp)
  generalize w.setCell ⟨p, 9, none⟩ (.int .u64 nb) = W1 at *
  clear c9 f9 HX HC HT hlt
  have c9 : W1.cell? ⟨p, 9, none⟩ = some (.int .u64 nb) := (H1.out.cell 9).trans (hcells_before H1.out.2)
  have HN : Hid (x.st.length = 8) := Lib.hid H1.out.2.1
  obtain ⟨S, HS⟩ : ∃ S, x.st = S := ⟨_, rfl⟩
  obtain ⟨s0, s1, s2, s3, s4, s5, s6, s7, HL⟩ := list8 (show S.length = 8 by rw [← HS]; exact HN.out)
  have d0 : W1.cell? ⟨p, 1, none⟩ = some (.int .u32 s0) := (H1.out.cell 1).trans ((hcells_st H1.out.2 0 (by omega)).trans (by show some (Value.int .u32 (at_ x.st 0)) = _; rw [HS, HL]; rfl))
  have d1 : W1.cell? ⟨p, 2, none⟩ = some (.int .u32 s1) := (H1.out.cell 2).trans ((hcells_st H1.out.2 1 (by omega)).trans (by show some (Value.int .u32 (at_ x.st 1)) = _; rw [HS, HL]; rfl))
  have d2 : W1.cell? ⟨p, 3, none⟩ = some (.int .u32 s2) := (H1.out.cell 3).trans ((hcells_st H1.out.2 2 (by omega)).trans (by show some (Value.int .u32 (at_ x.st 2)) = _; rw [HS, HL]; rfl))
  have d3 : W1.cell? ⟨p, 4, none⟩ = some (.int .u32 s3) := (H1.out.cell 4).trans ((hcells_st H1.out.2 3 (by omega)).trans (by show some (Value.int .u32 (at_ x.st 3)) = _; rw [HS, HL]; rfl))
  have d4 : W1.cell? ⟨p, 5, none⟩ = some (.int .u32 s4) := (H1.out.cell 5).trans ((hcells_st H1.out.2 4 (by omega)).trans (by show some (Value.int .u32 (at_ x.st 4)) = _; rw [HS, HL]; rfl))
  have d5 : W1.cell? ⟨p, 6, none⟩ = some (.int .u32 s5) := (H1.out.cell 6).trans ((hcells_st H1.out.2 5 (by omega)).trans (by show some (Value.int .u32 (at_ x.st 5)) = _; rw [HS, HL]; rfl))
  have d6 : W1.cell? ⟨p, 7, none⟩ = some (.int .u32 s6) := (H1.out.cell 7).trans ((hcells_st H1.out.2 6 (by omega)).trans (by show some (Value.int .u32 (at_ x.st 6)) = _; rw [HS, HL]; rfl))
  have d7 : W1.cell? ⟨p, 8, none⟩ = some (.int .u32 s7) := (H1.out.cell 8).trans ((hcells_st H1.out.2 7 (by omega)).trans (by show some (Value.int .u32 (at_ x.st 7)) = _; rw [HS, HL]; rfl))
  have HU : Hid (#[Value.int .u32 s0, .int .u32 s1, .int .u32 s2, .int .u32 s3, .int .u32 s4, .int .u32 s5, .int .u32 s6, .int .u32 s7] = u32s x.st) := Lib.hid (by rw [HS, HL]; rfl)
  have HZ : Hid (∀ T : List Int, (u32s T).toList.length = T.length) := Lib.hid fun T => by simp [u32s]
  obtain ⟨R, HR⟩ : ∃ R, comprL x.st (wordsL ds) nb 0 = R := ⟨_, rfl⟩
  have hRs : (u32s R).size = 8 := by rw [u32s_size, ← HR, comprL_len]
  have HRL : Hid (R.length = 8) := Lib.hid (by rw [← HR, comprL_len])
  replace HR := Lib.hid HR
  clear HS HL
  have HCALL := Lib.hid (compress_any b o c x.st ds nb 0 W1.drew HN.out (show ∀ k, k < 64 → W1.drew.cell? ⟨b, o + k, none⟩ = some (.int .u8 (at_ ds k)) from HC1.out) h64 HT1.out.drew)
  rw [← HU.out] at HCALL
  rw [HR.out] at HCALL
  go_region_with (go_at_call 54; refine HCALL.out.mono ?_; rintro e w2 ⟨rfl, hq⟩; have hq' := undrew hq; have h2 := H1.out.below hq' H1.out.lt; have hst := run_stst h2 R HRL.out)
  all_goals
    have h3 := h2.row (x' := { x with before := nb, st := R }) ⟨HRL.out, h2.2.2⟩ (cs := (hcells { x with before := nb, st := R }).toArray) rfl
    have HB3 := Lib.hid (HB1.out.trans ((But.of_below (p := p) hq').trans (But.setRow_ p w2 (hcells { x with before := nb, st := R }).toArray)))
    go_wp2_with (fail)
    go_end0
    refine ⟨rfl, ?_, HB3.out⟩
    rw [← HNB.out, HR.out]
    exact h3
end Go.Proofs.YtdjfklllfbenjaaDoor
