/- BlakeParts: the walk. -/
import Derived.Test.YtdjfklllfbenjaaDoorBu
import Derived.Deep.RegionWith
namespace Go.Proofs.YtdjfklllfbenjaaDoor
open Go.RowKit

theorem Own.but2 {w w' : World} {B p : Nat} {v : Value} {ds : List Int} (h : Own w B v ds) (hb : But p w w') (hp : p < B) : Own w' B v ds := by
  refine ⟨h.1, ?_⟩
  rcases h.2 with h2 | ⟨g, cap, cur, e, h1, hg, r⟩
  · exact .inl h2
  · exact .inr ⟨g, cap, cur, e, h1, (hb.block g (by omega) (Array.getElem?_eq_some_iff.1 hg).1).trans hg, r⟩
theorem Own.shapeB {w : World} {B : Nat} {v : Value} {ds : List Int} (h : Own w B v ds) : ∃ A c, v = .slice A ds.length c ∧ (A = none → c = 0) := by
  rcases h.2 with ⟨rfl, h0⟩ | ⟨g', cap, cur, rfl, _⟩
  · exact ⟨none, 0, by rw [h0], fun _ => rfl⟩
  · exact ⟨_, cap, rfl, fun e => by cases e⟩
theorem Own.setB {w : World} {B g n c j : Nat} {ds : List Int} (h : Own w B (.slice (some ⟨g, 0, none⟩) n c) ds) (hn : n = ds.length) (y : Int) : Own (w.setCell ⟨g, j, none⟩ (.int .u8 y)) B (.slice (some ⟨g, 0, none⟩) n c) (ds.set j y) := by
  subst hn
  have := (World.ownsRow.stored h j (.int .u8 y)).1
  unfold Own
  simpa [List.map_set] using this
theorem Own.cellB {w : World} {B g n c j : Nat} {ds : List Int} (h : Own w B (.slice (some ⟨g, 0, none⟩) n c) ds) (hn : n = ds.length) (hj : j < ds.length) : w.cell? ⟨g, j, none⟩ = some (.int .u8 (at_ ds j)) := by
  subst hn
  rw [World.ownsRow.cellAt h j (by omega)]
  simp [at_, hj]
theorem Own.freeB {w : World} {B g n c : Nat} {ds : List Int} (h : Own w B (.slice (some ⟨g, 0, none⟩) n c) ds) (j : Nat) : w.frozen? ⟨g, j, none⟩ = false := by
  rcases h.2 with ⟨e, _⟩ | ⟨g', cap, cur, e, hb, hg, _⟩
  · simp at e
  · have : g = g' := by simp at e; exact e.1
    subst this
    simp [World.frozen?, hg]
theorem kmsg_head (kd : List Int) (h : kd.length ≤ 32) : (kmsg kd).length = khead kd.length := by
  unfold kmsg khead
  split
  · rfl
  · rw [List.length_append, List.length_replicate]; omega
theorem Own.partAt {w : World} {B p : Nat} {v : Value} {ds : List Int} (h : Own w B v ds) (hp : p < B) : PartAt w p v ds := by
  obtain ⟨A, c, e, hc, hA⟩ := h.part
  refine ⟨A, c, e, hc, fun h0 => ?_⟩
  obtain ⟨b, o, e1, h1, h2, h3⟩ := hA h0
  refine ⟨b, o, e1, ?_, h2, h3⟩
  rcases h.2 with ⟨e2, h4⟩ | ⟨g, cap, cur, e2, h5, _⟩
  · omega
  · rw [e2, e1] at e
    simp at e
    omega
theorem but3 {p : Nat} {w w1 w2 w3 : World} (h1 : Below w.heap.size w w1) (h2 : But p w1 w2) (h3 : Below w.heap.size w2 w3) : But p w w3 :=
  ⟨h3.os.trans (h2.os.trans h1.os), h3.tape.trans (h2.tape.trans h1.tape), h3.output.trans (h2.output.trans h1.output), Nat.le_trans h1.size (Nat.le_trans h2.size h3.size), fun i hi hl => (h3.block i hl).trans ((h2.block i hi (Nat.lt_of_lt_of_le hl h1.size)).trans (h1.block i hl))⟩
def el (pl : List (List Int)) (k : Nat) : List Int := pl[k]?.getD []
def fl (pl : List (List Int)) : Nat → List Int
  | 0 => []
  | k + 1 => fl pl k ++ el pl k
/-- The parts lie in memory. -/
def PartsAt (w : World) (A : Option Addr) (n : Nat) (pl : List (List Int)) : Prop :=
  ∀ i, i < n → ∃ b o B m c, A = some ⟨b, o, none⟩ ∧ b < w.heap.size ∧ w.cell? ⟨b, o + i, none⟩ = some (.slice B m c) ∧ (el pl i).length = m ∧ PartAt w w.heap.size (.slice B m c) (el pl i) ∧ (B = none → c = 0)
set_option maxRecDepth 100000 in
set_option maxHeartbeats 8000000 in
theorem parts_any (A0 A1 : Option Addr) (n0 c0 n1 c1 : Nat) (kd : List Int) (pl : List (List Int)) (w : World) (hl0 : kd.length = n0) (hk0' : PartAt w w.heap.size (.slice A0 n0 c0) kd) (hA0 : A0 = none → c0 = 0) (hPP : PartsAt w A1 n1 pl) (htab : Tabs w) :
    Calls Tryd.prog 5 #[.slice A0 n0 c0, .slice A1 n1 c1] w fun e w' => e = .returned (.bool true) ∧ Below w.heap.size w w' := by
  have HKN : Hid (∀ w', Below w.heap.size w w' → Calls Tryd.prog 14 #[] w' fun e w'' => e = .returned (.bool true) ∧ Below w.heap.size w w'') := Lib.hid fun w' h => (known_any w' (htab.below h htab.lt)).mono fun e w'' hh => ⟨hh.1, h.trans (hh.2.mono h.size)⟩
  by_cases g1 : 32 < n0
  · have gI : (32 : Int) < n0 := by omega
    clear hl0 hk0' hA0 hPP htab g1
    go_enter Tryd.func5, Tryd.ntmps5
    go_wp2_with (fail)
    refine (HKN.out w (Below.refl _ _)).mono ?_
    rintro e w1 ⟨rfl, h1⟩
    go_wp2_with (fail)
    go_ret
    exact ⟨rfl, h1⟩
  by_cases g2 : 10 < n1
  · have gI : ¬ (32 : Int) < n0 := by omega
    have gJ : (10 : Int) < n1 := by omega
    clear hl0 hk0' hA0 hPP htab g1 g2
    go_enter Tryd.func5, Tryd.ntmps5
    go_wp2_with (fail)
    refine (HKN.out w (Below.refl _ _)).mono ?_
    rintro e w1 ⟨rfl, h1⟩
    go_wp2_with (fail)
    go_ret
    exact ⟨rfl, h1⟩
  have gI : ¬ (32 : Int) < n0 := by omega
  have gJ : ¬ (10 : Int) < n1 := by omega
  have G1 : Hid (n0 ≤ 32 ∧ n1 ≤ 10) := Lib.hid (by omega)
  have HT := Lib.hid htab
  have HK0 := Lib.hid hk0'
  have L0 := Lib.hid hl0
  have X0 := Lib.hid hA0
  have HP := Lib.hid hPP
  have Z2 : Hid (2 ≤ w.heap.size) := Lib.hid htab.lt
  clear hl0 hk0' hA0 hPP htab g1 g2
  go_enter Tryd.func5, Tryd.ntmps5
  go_wp2_with (fail)
  clear gI
  go_loopw [5] (fun i wx => ∃ k : Nat, Hid (k ≤ n1) ∧ i = .int .i64 (k : Int) ∧ Hid (∀ j, j < k → (el pl j).length ≤ 200) ∧ Hid (Below w.heap.size w wx)) (fun i _ => n1 - (intOf i).toNat)
  case atStart => exact ⟨0, Lib.hid (by omega), rfl, Lib.hid (fun j hj => by omega), Lib.hid (Below.refl _ _)⟩
  case round =>
    obtain ⟨k, hk, rfl, hle, hbl⟩ := hrel
    by_cases g : k < n1
    · have gI : (k : Int) < n1 := by omega
      obtain ⟨b, o, B, m, c, rfl, hb, hcell, hlen, -, -⟩ := HP.out k g
      have e1 := kept_cell hbl.out hcell hb
      have HLEN := Lib.hid hlen
      clear hcell hlen hb
      by_cases gm : 200 < m
      · have gM : (200 : Int) < m := by omega
        go_wp2_with (fail)
        refine (HKN.out wr hbl.out).mono ?_
        rintro e w1 ⟨rfl, h1⟩
        go_wp2_with (fail)
        go_ret
        exact ⟨rfl, h1⟩
      · have gM : ¬ (200 : Int) < m := by omega
        have hle2 : Hid (∀ j, j < k + 1 → (el pl j).length ≤ 200) := Lib.hid fun j hj => by
          rcases Nat.lt_succ_iff_lt_or_eq.1 hj with h | rfl
          · exact hle.out j h
          · rw [HLEN.out]; omega
        go_wp2_with (fail)
        first
          | exact ⟨⟨k + 1, Lib.hid (by omega), by go_num, hle2, hbl⟩, by simp [intOf]; omega⟩
          | (go_roundw
             case rel => exact ⟨k + 1, Lib.hid (by omega), by go_num, hle2, hbl⟩
             case measure => simp [intOf]; omega)
    · obtain rfl : k = n1 := by have := hk.out; omega
      have HLE := Lib.hid hle.out
      have BW := Lib.hid hbl.out
      have HC4 := Lib.hid (new_any A0 n0 c0 kd wr L0.out G1.out.1 (HK0.out.later BW.out BW.out.size) (HT.out.below BW.out Z2.out))
      clear hle hbl hk
      go_wp2_with (fail)
      refine HC4.out.mono ?_
      rintro e w4 ⟨⟨gc, x, rfl, hgc, hx, hi, hh⟩, b4⟩
      have HX : Hid (∃ x, HashAt w4 gc x ∧ Inv x (hk0 n0) (kmsg kd ++ fl pl 0) ∧ x.head = khead n0) := Lib.hid ⟨x, hx, by rw [show fl pl 0 = [] from rfl, List.append_nil]; exact hi, hh⟩
      have B4 := Lib.hid (BW.out.trans (b4.mono BW.out.size))
      have GC : Hid (w.heap.size ≤ gc ∧ gc < w4.heap.size) := Lib.hid ⟨Nat.le_trans BW.out.size hgc, hx.lt⟩
      have OA : Hid (Own w4 w4.heap.size (.slice none 0 0) (fl pl 0)) := Lib.hid (Own.nil_ _ _)
      clear hx hi hh hgc b4 HC4
      go_wp2_with (fail)
      obtain ⟨s, hs⟩ : ∃ s, w4.heap.size = s := ⟨_, rfl⟩
      rw [hs] at OA GC
      have HS : Hid (s ≤ w4.heap.size) := Lib.hid (by omega)
      have HWS : Hid (w.heap.size ≤ s) := Lib.hid (by have := B4.out.size; omega)
      clear hs
      go_loopw [8, 9] (fun va i wx => ∃ k' : Nat, Hid (k' ≤ k) ∧ i = .int .i64 (k' : Int) ∧ Hid ((fl pl k').length ≤ 200 * k') ∧ Hid (Own wx s va (fl pl k')) ∧ Hid (∃ x, HashAt wx gc x ∧ Inv x (hk0 n0) (kmsg kd ++ fl pl k') ∧ x.head = khead n0) ∧ Hid (Below w.heap.size w wx ∧ s ≤ wx.heap.size)) (fun _ i _ => k - (intOf i).toNat)
      case atStart => exact ⟨0, Lib.hid (by omega), rfl, Lib.hid (by show (0 : Nat) ≤ _; omega), OA, HX, Lib.hid ⟨B4.out, HS.out⟩⟩
      case round =>
        obtain ⟨k', hk', rfl, hfl, ho, hx, hb⟩ := hrel
        clear HX OA HS B4 BW
        obtain ⟨Aa, ca, rfl, hAa⟩ := ho.out.shapeB
        by_cases g : k' < k
        · have gI : (k' : Int) < k := by omega
          obtain ⟨b, o, B, m, c, rfl, hbl, hcell, hlen, hpart, hBn⟩ := HP.out k' g
          have HLN := Lib.hid hlen
          have HBN := Lib.hid hBn
          have HM2 : Hid (m ≤ 200) := Lib.hid (by rw [← hlen]; exact HLE.out k' g)
          have HCE := Lib.hid (show b < w.heap.size ∧ w.cell? ⟨b, o + k', none⟩ = some (.slice B m c) from ⟨hbl, hcell⟩)
          have HPA := Lib.hid hpart
          have e1 := kept_cell hb.out.1 hcell hbl
          have OE : Hid (Own (wr.alloc (.cells #[] 5)) wr.heap.size (.slice (some ⟨wr.heap.size, 0, none⟩) 0 0) []) := Lib.hid (Own.new0 wr)
          have BE : Hid (Below wr.heap.size wr (wr.alloc (.cells #[] 5))) := Lib.hid (Below.new wr _)
          have PB := Lib.hid ((hpart.later hb.out.1 hb.out.1.size).later BE.out BE.out.size)
          have e2 := kept_cell BE.out e1 (block_lt_of_cell e1)
          have HFL := Lib.hid hfl.out
          clear hbl hcell hlen hpart hBn hfl
          go_upto_region 16 with (at_builtin; refine appBs rfl _ _ _ rfl Tryd.underlying22 rfl OE.out BE.out BE.out.size B m c (wr.alloc (.cells #[] 5)).heap.size (el pl k') rfl HBN.out PB.out HLN.out (by simp; have := HM2.out; omega) ?_; intro v10 w10 o10 b10 k10)
          rw [List.nil_append] at o10
          obtain ⟨Ao, co, rfl, -⟩ := o10.shapeB
          rw [HLN.out] at o10 ⊢
          obtain ⟨x1, hx1, hi1, hh1⟩ := hx.out
          have HO := Lib.hid ho.out
          have HBW := Lib.hid hb.out
          have O10 := Lib.hid o10
          have B10 := Lib.hid b10
          have HGT : Hid (gc < s ∧ s ≤ wr.heap.size) := Lib.hid ⟨GC.out.2, hb.out.2⟩
          have HC11 := Lib.hid (write_any (hx1.below b10 hx1.lt) hi1 Ao m co (el pl k') (o10.partAt (by have := HGT.out; omega)) (Nat.le_trans Z2.out GC.out.1) (HT.out.below (hb.out.1.trans (b10.mono hb.out.1.size)) Z2.out) (by rw [List.length_append, HLN.out]; have := kmsg_len kd (by rw [L0.out]; exact G1.out.1); have := HFL.out; have := HM2.out; have := hk'.out; have := G1.out; omega))
          have HH1 := Lib.hid hh1
          clear e1 e2 OE BE PB o10 b10 k10 hx hx1 hi1 hh1 ho hb
          go_wp2_with (fail)
          refine HC11.out.mono ?_
          rintro e w11 ⟨rfl, ⟨x2, hx2, hi2, hh2⟩, b11⟩
          have HX11 := Lib.hid hx2
          have HI11 : Hid (Inv x2 (hk0 n0) (kmsg kd ++ fl pl (k' + 1)) ∧ x2.head = khead n0) := Lib.hid ⟨by rw [List.append_assoc] at hi2; exact hi2, hh2.trans HH1.out⟩
          have B11 := Lib.hid b11
          obtain ⟨t, ht⟩ : ∃ t, wr.heap.size = t := ⟨_, rfl⟩
          have HTT := Lib.hid ht
          have O11 : Hid (∃ ds, ds.length = m ∧ Own w11 t (.slice Ao m co) ds) := Lib.hid ⟨_, HLN.out, by rw [← ht]; exact O10.out.but2 b11 (by have := HGT.out; omega)⟩
          clear hx2 hi2 hh2 b11 HC11 ht O10
          generalize wr = wo at *
          go_wp2_with (fail)
          have hmI : (m : Int) ≤ 200 := by have := HM2.out; omega
          go_loopw [11] (fun i wx => ∃ j : Nat, Hid (j ≤ m) ∧ i = .int .i64 (j : Int) ∧ Hid (∃ ds, ds.length = m ∧ Own wx t (.slice Ao m co) ds) ∧ Hid (Below t w11 wx)) (fun i _ => m - (intOf i).toNat)
          case atStart => exact ⟨0, Lib.hid (by omega), rfl, O11, Lib.hid (Below.refl _ _)⟩
          case round =>
            obtain ⟨j, hj, rfl, hd, hbl⟩ := hrel
            clear O11
            by_cases gj : j < m
            · have gK : (j : Int) < m := by omega
              obtain ⟨ds, hdl, hdo⟩ := hd.out
              obtain ⟨g0, cc, ev⟩ := hdo.shape1' (by omega)
              rw [hdl] at ev
              injection ev with ev1 ev2 ev3
              subst ev1
              have c0 := hdo.cellB hdl.symm (j := j) (by omega)
              have f0 := hdo.freeB j
              obtain ⟨y, hy⟩ : ∃ y, (at_ ds j + 1) % 256 = y := ⟨_, rfl⟩
              have hyw : IntKind.u8.wrap y = y := by rw [IntKind.wrap_u8, ← hy]; omega
              have HD2 : Hid (∃ ds, ds.length = m ∧ Own (wr.setCell ⟨g0, j, none⟩ (.int .u8 y)) t (.slice (some ⟨g0, 0, none⟩) m co) ds) := Lib.hid ⟨ds.set j y, by rw [List.length_set, hdl], hdo.setB hdl.symm y⟩
              have HB2 : Hid (Below t w11 (wr.setCell ⟨g0, j, none⟩ (.int .u8 y))) := Lib.hid (hbl.out.setCell (p := ⟨g0, j, none⟩) hdo.base'.1 _)
              generalize at_ ds j = u at *
              clear hd hbl hdo hdl ev2 ev3
              go_wp2_with (fail)
              first
                | exact ⟨⟨j + 1, Lib.hid (by omega), by go_num, HD2, HB2⟩, by simp [intOf]; omega⟩
                | (go_roundw
                   case rel => exact ⟨j + 1, Lib.hid (by omega), by go_num, HD2, HB2⟩
                   case measure => simp [intOf]; omega)
            · obtain rfl : j = m := by have := hj.out; omega
              have HBT := Lib.hid hbl.out
              clear hd hbl hj
              generalize wr = wi at *
              have HXI : Hid (HashAt wi gc x2) := Lib.hid (HX11.out.below HBT.out (by have := HGT.out; have := HTT.out; omega))
              have BI : Hid (Below w.heap.size w wi) := Lib.hid ((Go.Proofs.YtdjfklllfbenjaaDoor.Below.but (HBW.out.1.trans (B10.out.mono HBW.out.1.size)) B11.out GC.out.1).trans (HBT.out.mono (by have := HTT.out; have := HWS.out; have := HGT.out; omega)))
              have SI : Hid (s ≤ wi.heap.size) := Lib.hid (by have h1 := HBT.out.size; have h2 := B11.out.size; have h3 := B10.out.size; have := HGT.out; omega)
              have OI : Hid (Own wi s (.slice Aa (fl pl k').length ca) (fl pl k')) := Lib.hid (HO.out.but2 (but3 B10.out B11.out (by rw [HTT.out]; exact HBT.out)) HGT.out.1)
              have ei := kept_cell BI.out HCE.out.2 HCE.out.1
              have PI := Lib.hid (HPA.out.later BI.out BI.out.size)
              clear HX11 B11 B10 HBT HO HBW HTT
              go_upto_region 23 with (at_builtin; refine appBs rfl _ _ _ rfl Tryd.underlying22 rfl OI.out (Below.refl s wi) SI.out B j c wi.heap.size (el pl k') rfl HBN.out PI.out HLN.out (by have := HFL.out; have := HM2.out; have := hk'.out; have := G1.out; omega) ?_; intro v13 w13 o13 b13 k13)
              have O13 : Hid (Own w13 s v13 (fl pl (k' + 1))) := Lib.hid o13
              have HX13 := Lib.hid (HXI.out.below b13 HGT.out.1)
              have B13 := Lib.hid (BI.out.trans (b13.mono HWS.out))
              have S13 : Hid (s ≤ w13.heap.size) := Lib.hid (Nat.le_trans SI.out b13.size)
              have HF13 : Hid ((fl pl (k' + 1)).length ≤ 200 * (k' + 1)) := Lib.hid (by show (fl pl k' ++ el pl k').length ≤ _; rw [List.length_append, HLN.out]; have := HFL.out; have := HM2.out; omega)
              clear o13 b13 k13 HXI BI SI OI ei PI HFL
              have hmsg : (kmsg kd ++ fl pl (k' + 1)).length < 100000000 := by rw [List.length_append]; have := kmsg_len kd (by rw [L0.out]; exact G1.out.1); have := HF13.out; have := hk'.out; have := G1.out; omega
              have HMS := Lib.hid hmsg
              have HC7 := Lib.hid (msum_any HX13.out HI11.out.1 (HT.out.below B13.out Z2.out) (by omega))
              rw [← L0.out, hash_eq] at HC7
              clear hmsg
              obtain ⟨fk, hfk⟩ : ∃ fk, fl pl (k' + 1) = fk := ⟨_, rfl⟩
              rw [hfk] at O13 HF13 HMS HC7 HI11
              obtain ⟨Av, cv, rfl, hAv⟩ := O13.out.shapeB
              have HAV := Lib.hid hAv
              go_wp2_with (fail)
              refine HC7.out.mono ?_
              rintro e w7 ⟨rfl, b7⟩
              obtain ⟨q1, q2, q3⟩ := arr_new w7 (hashB kd fk)
              have hl := hashB_len kd fk
              have hb7 := b7.trans (q2.mono b7.size)
              have OV := Lib.hid (O13.out.below hb7)
              have HX := Lib.hid (HX13.out.below hb7 HX13.out.lt)
              have BB := Lib.hid (B13.out.trans (hb7.mono B13.out.size))
              have RS := Lib.hid q1
              have RN := Lib.hid q3
              have SW := Lib.hid (Nat.le_trans S13.out hb7.size)
              clear q1 q2 q3 b7 hb7 HC7 HX13 O13 B13 S13 hAv
              obtain ⟨W8, hW8⟩ : ∃ W8, (w7.alloc (.cells (u8s z32) 24)).setRow w7.heap.size (u8s (hashB kd fk)) = W8 := ⟨_, rfl⟩
              rw [hW8] at OV HX RS BB SW
              rw [u8s_z32] at RN hW8
              obtain ⟨hh, hhh⟩ : ∃ hh, hashB kd fk = hh := ⟨_, rfl⟩
              rw [hhh] at hW8 RS hl ⊢
              go_upto_region 24 with (refine st32 rfl _ _ rfl w7.heap.size rfl z32 hh rfl RN.out hl rfl ?_)
              clear RN hW8
              generalize w7.heap.size = gh at *
              obtain ⟨sh, hsh⟩ : ∃ z, strOfNums hh = z := ⟨_, rfl⟩
              have HKEEP : Hid (∀ w', Below W8.heap.size W8 w' → (convert 22 9 (.slice (some ⟨gh, 0, none⟩) 32 32)).run Tryd.prog w' = .ok (.string sh) w') := Lib.hid fun w' h => by
                rw [← hsh]; exact conv_part ((RS.out.part32 hl).later h h.size)
              obtain ⟨lf, hlf⟩ : ∃ n, fk.length = n := ⟨_, rfl⟩
              have HLF := Lib.hid hlf
              rw [hlf] at OV ⊢
              have HLEN : Hid (∀ w', Below W8.heap.size W8 w' → Calls Tryd.prog 21 #[.pointer (some ⟨gc, 0, none⟩)] w' fun e w'' => e = .returned (.int .i64 (lf : Int)) ∧ (convert 22 9 (.slice (some ⟨gh, 0, none⟩) 32 32)).run Tryd.prog w'' = .ok (.string sh) w'' ∧ Below W8.heap.size W8 w'') := Lib.hid fun w' h => (len_any (HX.out.below h HX.out.lt) HI11.out.1 (by have := HMS.out; omega) (by rw [HI11.out.2, List.length_append, kmsg_head kd (by rw [L0.out]; exact G1.out.1), L0.out]; omega)).mono fun e w'' hz => by
                obtain ⟨e1, n, rfl⟩ := hz
                have hq : Below W8.heap.size W8 (w'.drewN n) := below_drewN h n
                refine ⟨?_, HKEEP.out _ hq, hq⟩
                rw [e1, HI11.out.2, List.length_append, kmsg_head kd (by rw [L0.out]; exact G1.out.1), L0.out, Nat.add_sub_cancel_left, hlf]
              have HCALL : Hid (∀ w', Below W8.heap.size W8 w' → Calls Tryd.prog 16 #[.slice A0 n0 c0, .slice Av lf cv] w' fun e w'' => ∃ v', e = .returned v' ∧ (convert 22 9 v').run Tryd.prog w'' = .ok (.string sh) w'' ∧ (convert 22 9 (.slice (some ⟨gh, 0, none⟩) 32 32)).run Tryd.prog w'' = .ok (.string sh) w'' ∧ Below W8.heap.size W8 w'') := Lib.hid fun w' h => (rhash_any A0 Av n0 c0 lf cv kd fk w' L0.out G1.out.1 (HK0.out.later (BB.out.trans (h.mono BB.out.size)) (Nat.le_trans BB.out.size h.size)) (OV.out.below h).part hlf (by have := HMS.out; rw [List.length_append, hlf] at this; omega) X0.out HAV.out).mono fun e w'' hz => by
                obtain ⟨⟨v', e1, h1⟩, h2⟩ := hz
                have hq := h.trans (h2.mono h.size)
                exact ⟨v', e1, by rw [← hsh, ← hhh]; exact conv_part h1.part, HKEEP.out _ hq, hq⟩
              have hRD : Below W8.heap.size W8 W8.drew := (Below.refl _ _).drew
              have hcd := HKEEP.out _ hRD
              have HFIN : Hid (∀ w', Below W8.heap.size W8 w' → Own w' s (.slice Av lf cv) fk ∧ (∃ x, HashAt w' gc x ∧ Inv x (hk0 n0) (kmsg kd ++ fk) ∧ x.head = khead n0) ∧ (Below w.heap.size w w' ∧ s ≤ w'.heap.size)) := Lib.hid fun w' h => ⟨OV.out.below h, ⟨_, HX.out.below h HX.out.lt, HI11.out.1, HI11.out.2⟩, BB.out.trans (h.mono BB.out.size), Nat.le_trans SW.out h.size⟩
              have HK2 : Hid (k' + 1 ≤ k) := Lib.hid (by omega)
              have HFK : Hid (fl pl (k' + 1) = fk) := Lib.hid hfk
              clear hsh hhh hl hlf hfk OV HX BB RS SW hmI
              go_region_with (first
                | (go_at_call 21; refine (HLEN.out _ hRD).mono ?_; rintro e w5 ⟨rfl, hd5, h5⟩)
                | (go_at_call 16; refine (HCALL.out _ h5).mono ?_; rintro e w6 ⟨v6, rfl, hc6, hd6, h6⟩))
              all_goals
                obtain ⟨f1, f2, f3⟩ := HFIN.out _ h6
                have F1 : Hid (Own w6 s (.slice Av lf cv) (fl pl (k' + 1))) := Lib.hid (by rw [HFK.out]; exact f1)
                have F2 : Hid (∃ x, HashAt w6 gc x ∧ Inv x (hk0 n0) (kmsg kd ++ fl pl (k' + 1)) ∧ x.head = khead n0) := Lib.hid (by rw [HFK.out]; exact f2)
                have F3 := Lib.hid f3
                have F4 : Hid ((fl pl (k' + 1)).length ≤ 200 * (k' + 1)) := Lib.hid (by rw [HFK.out]; exact HF13.out)
                clear f1 f2 f3 hRD hcd hc6 hd6 hd5 h5 h6 HFIN HLEN HCALL HKEEP
                go_wp2_with (fail)
                first
                  | exact ⟨⟨k' + 1, HK2, by go_num, F4, F1, F2, F3⟩, by simp [intOf]; omega⟩
                  | (go_roundw
                     case rel => exact ⟨k' + 1, HK2, by go_num, F4, F1, F2, F3⟩
                     case measure => simp [intOf]; omega)
        · obtain rfl : k' = k := by have := hk'.out; omega
          have hbw := hb.out.1
          clear ho hx hb hfl
          go_wp2_with (fail)
          refine (HKN.out wr hbw).mono ?_
          rintro e w1 ⟨rfl, h1⟩
          go_wp2_with (fail)
          go_ret
          exact ⟨rfl, h1⟩
end Go.Proofs.YtdjfklllfbenjaaDoor
