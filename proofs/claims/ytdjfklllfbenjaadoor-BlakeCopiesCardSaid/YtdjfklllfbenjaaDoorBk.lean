/- Package blake: add. -/
import Derived.Test.YtdjfklllfbenjaaDoorBj
namespace Go.Proofs.YtdjfklllfbenjaaDoor
open Go.RowKit

/-- v is a slice of the bytes ds that lie outside block p. -/
def PartAt (w : World) (p : Nat) (v : Value) (ds : List Int) : Prop :=
  ∃ A c, v = .slice A ds.length c ∧ ds.length ≤ c ∧ (0 < ds.length → ∃ b o, A = some ⟨b, o, none⟩ ∧ b ≠ p ∧ b < w.heap.size ∧ ∀ k, k < ds.length → w.cell? ⟨b, o + k, none⟩ = some (.int .u8 (at_ ds k)))
theorem PartAt.but {w w' : World} {p : Nat} {v : Value} {ds : List Int} (h : PartAt w p v ds) (hb : But p w w') : PartAt w' p v ds := by
  obtain ⟨A, c, e, hc, h⟩ := h
  refine ⟨A, c, e, hc, fun h0 => ?_⟩
  obtain ⟨b, o, e, h1, h2, h3⟩ := h h0
  exact ⟨b, o, e, h1, Nat.lt_of_lt_of_le h2 hb.size, fun k hk => (hb.cell_ h1 h2).trans (h3 k hk)⟩
def flat (ps : List (Value × List Int)) : List Int := (ps.map (·.2)).flatten
theorem flat_take {ps : List (Value × List Int)} {k : Nat} (hk : k < ps.length) : flat (ps.take (k + 1)) = flat (ps.take k) ++ (ps[k]).2 := by
  unfold flat
  rw [List.take_add_one, List.getElem?_eq_getElem hk]
  simp only [Option.toList_some, List.map_append, List.flatten_append, List.map_cons, List.map_nil, List.flatten_cons, List.flatten_nil, List.append_nil]
theorem flat_split (ps : List (Value × List Int)) (j : Nat) : flat ps = flat (ps.take j) ++ flat (ps.drop j) := by
  unfold flat
  rw [← List.flatten_append, ← List.map_append, List.take_append_drop]
theorem unBut {p : Nat} {w w' : World} (h : But p w.drew w') : But p w w' := ⟨h.os, h.tape, h.output, h.size, h.block⟩
theorem min_full {m u r : Nat} (hu : u ≤ 64) (hr : Nat.min m (64 - u) = r) : r ≤ m ∧ u + r ≤ 64 ∧ (r < m → u + r = 64) := by
  have e : Nat.min m (64 - u) = min m (64 - u) := rfl
  omega
set_option maxRecDepth 100000 in
set_option maxHeartbeats 2000000 in
theorem add_any (p q n : Nat) (ps : List (Value × List Int)) (msg h0 : List Int) (x : Hst) (w : World) (h : HashAt w p x) (hi : Inv x h0 msg) (hn : ps.length = n) (hq : q ≠ p) (hql : q < w.heap.size)
    (hc : ∀ k (hk : k < ps.length), w.cell? ⟨q, k, none⟩ = some (ps[k]).1 ∧ PartAt w p (ps[k]).1 (ps[k]).2)
    (hp : 2 ≤ p) (htab : Tabs w) (hm : msg.length + (flat ps).length < 100000000000) (hn2 : n < 1000) :
    Calls Tryd.prog 42 #[.pointer (some ⟨p, 0, none⟩), .slice (some ⟨q, 0, none⟩) n n] w fun e w' => e = .returned (.tuple #[]) ∧
      (∃ x', HashAt w' p x' ∧ Inv x' h0 (msg ++ flat ps) ∧ x'.head = x.head) ∧ But p w w' := by
  have HX := Lib.hid h
  have HI := Lib.hid hi
  have HC := Lib.hid hc
  have HT := Lib.hid htab
  have HP := Lib.hid hp
  have HM := Lib.hid hm
  have HN := Lib.hid hn
  have HQ := Lib.hid hq
  have HQL := Lib.hid hql
  clear h hi hc htab hp hm hn hq hql
  go_enter Tryd.func42, Tryd.ntmps42
  go_wp2_with (fail)
  go_loopw [5, 6, 9] (fun _ _ i wr => ∃ (k : Nat) (y : Hst), i = .int .i64 k ∧ k ≤ n ∧ Hid (HashAt wr p y) ∧ Hid (Inv y h0 (msg ++ flat (ps.take k))) ∧ Hid (y.head = x.head) ∧ Hid (But p w wr)) (fun _ _ i _ => n - (intOf i).toNat)
  case atStart => exact ⟨0, x, rfl, Nat.zero_le _, HX, by rw [List.take_zero]; show Hid (Inv x h0 (msg ++ [])); rw [List.append_nil]; exact HI, Lib.hid rfl, Lib.hid (But.refl p w)⟩
  case round =>
    obtain ⟨k, y, rfl, hk, hy, hinv, hhd, hbu⟩ := hrel
    clear HX HI
    by_cases g : k < n
    · have gI : (k : Int) < n := by omega
      obtain ⟨hcell, hpart⟩ := HC.out k (by rw [HN.out]; exact g)
      have hcell' := (hbu.out.cell_ (k := k) HQ.out HQL.out).trans hcell
      have hpart' := hpart.but hbu.out
      obtain ⟨v, ds, hvd⟩ : ∃ v ds, ps[k]'(by rw [HN.out]; exact g) = (v, ds) := ⟨_, _, rfl⟩
      rw [hvd] at hcell' hpart'
      change PartAt wr p v ds at hpart'
      change _ = some v at hcell'
      have HFT : Hid (flat (ps.take (k + 1)) = flat (ps.take k) ++ ds) := Lib.hid (by rw [flat_take (by rw [HN.out]; exact g), hvd])
      obtain ⟨A, c, rfl, hdc, hA⟩ := hpart'
      obtain ⟨m, hmE⟩ : ∃ m, ds.length = m := ⟨_, rfl⟩
      have HTL : Hid (msg.length + (flat (ps.take k)).length + m < 100000000000) := Lib.hid (by
        have h1 : (flat (ps.take (k + 1))).length ≤ (flat ps).length := by
          rw [flat_split ps (k + 1), List.length_append]
          omega
        rw [HFT.out, List.length_append, hmE] at h1
        have := HM.out
        omega)
      rw [hmE] at hcell' hdc
      have e74 := (hy.out.cell 74).trans (hcells_used hy.out.2)
      obtain ⟨u, hu⟩ : ∃ u, y.used = u := ⟨_, rfl⟩
      rw [hu] at e74
      have hu64 : u ≤ 64 := hu ▸ hinv.out.le
      have hA := Lib.hid hA
      have HU := Lib.hid hu
      have HME := Lib.hid hmE
      clear hcell hpart hvd HC hu hmE
      obtain ⟨r, hr⟩ : ∃ r, Nat.min m (64 - u) = r := ⟨_, rfl⟩
      obtain ⟨hr1, hr2, hr3⟩ := min_full hu64 hr
      have HR := Lib.hid hr
      have HR1 := Lib.hid hr1
      have HR2 := Lib.hid hr2
      have HR3 := Lib.hid hr3
      clear hr hr1 hr2 hr3
      have HG : Hid (wr.heap[p]? = some (.cells (hcells y).toArray 71 (0, 0))) := Lib.hid hy.out.1
      have HLT : Hid ((ds.take r).length = r) := Lib.hid (by rw [List.length_take, HME.out]; exact Nat.min_eq_left HR1.out)
      have HCS : Hid (((ds.take r).map (Value.int .u8)).length = Nat.min m (64 - u)) := Lib.hid (by rw [List.length_map, HLT.out, HR.out])
      have HPOS : Hid (0 < ((ds.take r).map (Value.int .u8)).length → ∃ ad, A = some ad ∧ ∀ j v, ((ds.take r).map (Value.int .u8))[j]? = some v → wr.cell? (ad.add j) = some v) := Lib.hid fun h0 => by
        rw [List.length_map, HLT.out] at h0
        obtain ⟨b, o, rfl, -, -, hcc⟩ := hA.out (by rw [HME.out]; have := HR1.out; omega)
        refine ⟨_, rfl, fun j v hv => ?_⟩
        have hj : j < r := by have := (List.getElem?_eq_some_iff.1 hv).1; rw [List.length_map, HLT.out] at this; exact this
        have hjd : j < ds.length := by rw [HME.out]; have := HR1.out; omega
        rw [Addr.add_mid, hcc j hjd, ← hv]
        simp [at_, hj, hjd]
      have HFIT : Hid (10 + u + ((ds.take r).map (Value.int .u8)).length ≤ (hcells y).length) := Lib.hid (by rw [hcells_len hy.out.2, List.length_map, HLT.out]; have := HR2.out; omega)
      have HFU : Hid (u + (ds.take r).length ≤ 64) := Lib.hid (by rw [HLT.out]; exact HR2.out)
      have hgl : (((ds.take r).map (Value.int .u8)).length : Int) = (r : Int) := by rw [List.length_map, HLT.out]
      go_wp2_with (fail)
      go_cut [6] from 13 to 22 (fun s wx => s = .int .i64 r ∧ Hid (HashAt wx p { y with rest := splice y.rest u (ds.take r) }) ∧ Hid (But p wr wx))
      case first =>
        by_cases g2 : u = 64
        · subst g2
          have e74 : wr.cell? ⟨p, 74, none⟩ = some (.int .i64 64) := e74
          go_region_law (refine step_copyB rfl (.tmp 20) (.tmp 21) 22 22 rfl 5 Tryd.underlying22 infoU8 _ A 0 0 m c rfl rfl p (10 + 64) (hcells y) 71 HG.out ((ds.take r).map (Value.int .u8)) HCS.out (fun h0 => absurd HR2.out (by rw [List.length_map, HLT.out] at h0; omega)) HFIT.out (oneU8 _) ?_; intro w2 hg2 hb2)
          all_goals
            have hy2 := hash_copied hy.out 64 (ds.take r) HFU.out hg2.out
            go_wp2_with (fail)
            go_meet
            exact ⟨by have := HLT.out; rw [List.length_take] at this; rw [this], Lib.hid hy2, Lib.hid (unBut hb2)⟩
        · have u64 : (u : Int) < 64 := by omega
          have u65 : (u : Int) ≤ 64 := by omega
          have u66 : (0 : Int) ≤ u := by omega
          have u67 : ¬ 64 < u := by omega
          have u68 : ¬ 64 = u := by omega
          go_region_law (refine step_copyB rfl (.tmp 20) (.tmp 21) 22 22 rfl 5 Tryd.underlying22 infoU8 (some ⟨p, 10 + u, none⟩) A (64 - u) (64 - u) m c rfl rfl p (10 + u) (hcells y) 71 HG.out ((ds.take r).map (Value.int .u8)) HCS.out (fun h0 => ⟨rfl, HPOS.out h0⟩) HFIT.out (oneU8 _) ?_; intro w2 hg2 hb2)
          all_goals
            have hy2 := hash_copied hy.out u (ds.take r) HFU.out hg2.out
            go_wp2_with (fail)
            go_meet
            exact ⟨by have := HLT.out; rw [List.length_take] at this; rw [this], Lib.hid hy2, Lib.hid (unBut hb2)⟩
      case rest =>
      obtain ⟨rfl, hyc, hbc⟩ := hcut
      have HF := Lib.hid (hinv.out.few (es := ds.take r) hy.out.2.2 (by rw [HU.out]; exact HFU.out))
      rw [HU.out, HLT.out] at HF
      clear e74
      have e74 : wc.cell? ⟨p, 74, none⟩ = some (.int .i64 u) := ((hyc.out.cell 74).trans (hcells_used hyc.out.2)).trans (by show some (Value.int .i64 (y.used : Int)) = _; rw [HU.out])
      have f74 := hyc.out.free 74
      have hur : (u : Int) + r ≤ 64 := by have := HR2.out; omega
      have HY2 := Lib.hid (show HashAt (wc.setCell ⟨p, 74, none⟩ (.int .i64 ((u + r : Nat) : Int))) p { y with rest := splice y.rest u (ds.take r), used := u + r } from hyc.out.to (x' := { y with rest := splice y.rest u (ds.take r), used := u + r }) hyc.out.2 74 _ (set_used hyc.out.2 (u + r)))
      have HB2 := Lib.hid ((hbu.out.trans hbc.out).trans (But.set_ p 74 wc (.int .i64 ((u + r : Nat) : Int))))
      have HCAST : Hid ((u : Int) + r = ((u + r : Nat) : Int)) := Lib.hid (by omega)
      have HPA : Hid (0 < ds.length → ∃ b o, A = some ⟨b, o, none⟩ ∧ b ≠ p ∧ b < (wc.setCell ⟨p, 74, none⟩ (.int .i64 ((u + r : Nat) : Int))).heap.size ∧ ∀ k, k < ds.length → (wc.setCell ⟨p, 74, none⟩ (.int .i64 ((u + r : Nat) : Int))).cell? ⟨b, o + k, none⟩ = some (.int .u8 (at_ ds k))) := Lib.hid fun h0 => by
        obtain ⟨b, o, e, h1, h2, h3⟩ := hA.out h0
        have hb := hbc.out.trans (But.set_ p 74 wc (.int .i64 ((u + r : Nat) : Int)))
        exact ⟨b, o, e, h1, Nat.lt_of_lt_of_le h2 hb.size, fun k hk => (hb.cell_ h1 h2).trans (h3 k hk)⟩
      clear hy hinv hbu hA HG HCS HPOS HFIT HFU hyc hbc hgl
      by_cases g3 : r < m
      · have gJ : (r : Int) < m := by omega
        obtain ⟨b, o, rfl, hb1, hb2, hb3⟩ := HPA.out (by rw [HME.out]; omega)
        have HBN := Lib.hid hb1
        have HBL := Lib.hid hb2
        have HBC := Lib.hid hb3
        have hcr : ¬ c = r := by omega
        have hrc : (r : Int) ≤ m := by omega
        have hmc : (m : Int) ≤ c := by omega
        clear HPA hb1 hb2 hb3
        go_wp2_with (fail)
        rw [HCAST.out]
        have HBE := beyond_any p b (o + r) (c - r) (ds.drop r) (msg ++ flat (ps.take k) ++ ds.take r) h0 _ _ HY2.out HF.out (HR3.out g3) (fun j hj => by
          rw [at_drop, Nat.add_assoc]
          exact HBC.out (r + j) (by rw [List.length_drop] at hj; omega)) (by rw [List.length_drop, HME.out]; omega) HBN.out HBL.out (by rw [List.length_drop, HME.out]; omega) HP.out (HT.out.but HB2.out HP.out) (by
            rw [List.length_append, List.length_append, HLT.out, List.length_drop, HME.out]
            have := HTL.out; omega)
        rw [show (ds.drop r).length = m - r by rw [List.length_drop, HME.out]] at HBE
        refine HBE.mono ?_
        rintro e w3 ⟨rfl, ⟨x3, h31, h32, h33⟩, h34⟩
        have HX3 := Lib.hid h31
        have HI3 : Hid (Inv x3 h0 (msg ++ flat (ps.take (k + 1)))) := Lib.hid (by rw [HFT.out, ← List.append_assoc]; rw [List.append_assoc, List.take_append_drop] at h32; exact h32)
        have HH3 := Lib.hid (h33.trans hhd.out)
        have HB3 := Lib.hid (HB2.out.trans h34)
        clear HBE h31 h32 h33 h34 HF HY2 HB2 HBN HBL HBC
        go_wp2_with (fail)
        go_roundw
        case rel => exact ⟨k + 1, x3, by go_num, by omega, HX3, HI3, HH3, HB3⟩
        case measure => simp [intOf]; omega
      · obtain rfl : r = m := by have := HR1.out; omega
        go_wp2_with (fail)
        have HI3 : Hid (Inv { y with rest := splice y.rest u (ds.take r), used := u + r } h0 (msg ++ flat (ps.take (k + 1)))) := Lib.hid (by
          have h := HF.out
          rw [List.append_assoc, ← List.append_assoc, List.append_assoc] at h
          rw [HFT.out]
          have e : ds.take r = ds := List.take_of_length_le (by rw [HME.out]; exact Nat.le_refl _)
          rw [e] at h ⊢
          exact h)
        rw [HCAST.out]
        exact ⟨⟨k + 1, _, by go_num, by omega, HY2, HI3, hhd, HB2⟩, by simp [intOf]; omega⟩
    · obtain rfl : k = n := by omega
      rw [List.take_of_length_le (by rw [HN.out]; exact Nat.le_refl _)] at hinv
      have h1 := hy.out; have h2 := hinv.out; have h3 := hhd.out; have h4 := hbu.out
      go_wp2_with (fail)
      go_end0
      exact ⟨rfl, ⟨_, h1, h2, h3⟩, h4⟩
end Go.Proofs.YtdjfklllfbenjaaDoor
