/- Package blake: addBeyond. -/
import Derived.Test.YtdjfklllfbenjaaDoorBi
namespace Go.Proofs.YtdjfklllfbenjaaDoor
open Go.RowKit

theorem oneU8 (s : List Int) : ∀ v ∈ s.map (Value.int .u8), v.oneCell' = true := by
  intro v hv; obtain ⟨z, _, rfl⟩ := List.mem_map.1 hv; rfl
/-- The length of a slice. -/
def lenS : Value → Nat | .slice _ n _ => n | _ => 0
/-- Behind j blocks of the part. -/
structure Mid (x : Hst) (h0 T : List Int) (N hd : Nat) : Prop where
  st : x.st = foldL h0 T N
  before : x.before = 64 * N
  head : x.head = hd
theorem Mid.next {x : Hst} {h0 T ds : List Int} {N hd : Nat} (h : Mid x h0 T N hd) (hd' : ∀ k, k < 64 → at_ ds k = at_ T (64 * N + k)) :
    Mid { x with before := x.before + 64, st := comprL x.st (wordsL ds) ((x.before + 64 : Nat) : Int) 0 } h0 T (N + 1) hd := by
  refine ⟨?_, ?_, h.head⟩
  · show comprL _ _ _ _ = foldL h0 T (N + 1)
    unfold foldL
    rw [h.st, h.before, wordsL_congr (es := T.drop (64 * N)) (fun k hk => by rw [hd' k hk, at_drop])]
  · show x.before + 64 = _
    rw [h.before]; omega
theorem Mid.last {x : Hst} {h0 T ds : List Int} {N hd : Nat} (h : Mid x h0 T N hd) (hr : x.rest.length = 64) (hl : T.length = 64 * N + ds.length) (h1 : 1 ≤ ds.length) (h2 : ds.length ≤ 64) (hd' : ∀ k, k < ds.length → at_ ds k = at_ T (64 * N + k)) :
    Inv { x with rest := splice x.rest 0 ds, used := ds.length } h0 T := by
  have hn : nb T.length = N := by unfold nb; omega
  refine ⟨?_, ?_, ?_, ?_⟩
  · rw [hn]; exact h.st
  · rw [hn]; exact h.before
  · rw [hn]; show ds.length + _ = _; omega
  · intro k hk
    have hk : k < ds.length := hk
    show at_ (splice x.rest 0 ds) k = _
    rw [at_splice (by omega), if_neg (by omega), if_pos (by omega), hn]
    exact hd' k hk
theorem splice_len (L cs : List Int) (u : Nat) (h : u + cs.length ≤ L.length) : (splice L u cs).length = L.length := length_splice L u cs h
theorem hash_copied {w w2 : World} {p : Nat} {y : Hst} (h : HashAt w p y) (u : Nat) (ds : List Int) (hu : u + ds.length ≤ 64) (hg : w2.heap[p]? = some (.cells (splice (hcells y) (10 + u) (ds.map (Value.int .u8))).toArray 71 (0, 0))) :
    HashAt w2 p { y with rest := splice y.rest u ds } := by
  rw [splice_rest h.2 u ds hu] at hg
  exact ⟨hg, h.2.1, by show (splice y.rest u ds).length = 64; rw [splice_len _ _ _ (by rw [h.2.2]; exact hu)]; exact h.2.2⟩
set_option maxRecDepth 100000 in
set_option maxHeartbeats 2000000 in
theorem beyond_any (p b o c : Nat) (es msg h0 : List Int) (x : Hst) (w : World) (h : HashAt w p x) (hi : Inv x h0 msg) (hu : x.used = 64) (hc : ∀ k, k < es.length → w.cell? ⟨b, o + k, none⟩ = some (.int .u8 (at_ es k))) (hce : es.length ≤ c)
    (hb : b ≠ p) (hbl : b < w.heap.size) (h1 : 1 ≤ es.length) (hp : 2 ≤ p) (htab : Tabs w) (hm : msg.length + es.length < 100000000000) :
    Calls Tryd.prog 52 #[.pointer (some ⟨p, 0, none⟩), .slice (some ⟨b, o, none⟩) es.length c] w fun e w' => e = .returned (.tuple #[]) ∧
      (∃ x', HashAt w' p x' ∧ Inv x' h0 (msg ++ es) ∧ x'.head = x.head) ∧ But p w w' := by
  obtain ⟨N, hN⟩ : ∃ N, nb msg.length = N := ⟨_, rfl⟩
  have hml : msg.length = 64 * N + 64 := by have := hi.used; rw [hN, hu] at this; omega
  have hbf : x.before = 64 * N := by rw [hi.before, hN]
  have HX := Lib.hid h
  have HC := Lib.hid hc
  have HT := Lib.hid htab
  have HR0 : Hid (∀ k, k < 64 → w.cell? ⟨p, 10 + k, none⟩ = some (.int .u8 (at_ x.rest k))) := Lib.hid fun k hk => (h.cell _).trans (hcells_rest h.2 k hk)
  have HM0 : Hid (Mid { x with before := x.before + 64, st := comprL x.st (wordsL x.rest) ((x.before + 64 : Nat) : Int) 0 } h0 (msg ++ es) (N + 1) x.head) := Lib.hid (by
    refine Mid.next ⟨?_, hbf, rfl⟩ ?_
    · rw [foldL_app _ _ _ _ (by omega), ← hN]; exact hi.st
    · intro k hk
      rw [hi.rest k (by omega), at_left (by omega), hN])
  have HB0 := Lib.hid hb
  have HBL := Lib.hid hbl
  have HML := Lib.hid hml
  have HMM := Lib.hid hm
  have HBF := Lib.hid hbf
  obtain ⟨m, hmE⟩ : ∃ m, es.length = m := ⟨_, rfl⟩
  rw [hmE] at h1 hce ⊢
  have HME := Lib.hid hmE
  have H1 := Lib.hid h1
  have HCE := Lib.hid hce
  have HP := Lib.hid hp
  clear h hi hu hc hb hbl hp htab hm hN hml hbf hmE h1 hce
  go_enter Tryd.func52, Tryd.ntmps52
  go_wp2_with (fail)
  refine (next_any p p 10 64 x.rest x w HX.out HR0.out (Nat.le_refl _) HP.out HT.out (fun _ => Nat.le_refl _) (by rw [HBF.out]; have := HML.out; have := HMM.out; omega)).mono ?_
  rintro e w1 ⟨rfl, hx1, hb1⟩
  have HX1 := Lib.hid hx1
  have HB1 := Lib.hid hb1
  clear hx1 hb1
  go_wp2_with (fail)
  go_loopw [1] (fun s wr => ∃ (j : Nat) (y : Hst), s = .slice (some ⟨b, o + 64 * j, none⟩) (m - 64 * j) (c - 64 * j) ∧ Hid (64 * j < m) ∧ Hid (HashAt wr p y) ∧ Hid (Mid y h0 (msg ++ es) (N + 1 + j) x.head) ∧ Hid (But p w wr)) (fun s _ => lenS s)
  case atStart => exact ⟨0, _, rfl, H1, HX1, HM0, HB1⟩
  case round =>
    obtain ⟨j, y, rfl, hj, hy, hmid, hbu⟩ := hrel
    clear HX1 HM0 HB1 HR0
    have HT1 := Lib.hid (HT.out.but hbu.out HP.out)
    have HC1 : Hid (∀ k, k < m - 64 * j → wr.cell? ⟨b, o + 64 * j + k, none⟩ = some (.int .u8 (at_ (es.drop (64 * j)) k))) := Lib.hid fun k hk => by
      rw [hbu.out.cell_ HB0.out HBL.out, at_drop, Nat.add_assoc]
      exact HC.out (64 * j + k) (by rw [HME.out]; omega)
    have HD : Hid (∀ k, k < m - 64 * j → at_ (es.drop (64 * j)) k = at_ (msg ++ es) (64 * (N + 1 + j) + k)) := Lib.hid fun k hk => by
      rw [at_drop, at_right (by rw [HML.out]; omega), HML.out]
      congr 1
      omega
    have HL : Hid ((es.drop (64 * j)).length = m - 64 * j) := Lib.hid (by rw [List.length_drop, HME.out])
    have hj1 := hj.out
    have hce := HCE.out
    have HBY : Hid (y.before < 1000000000000) := Lib.hid (by have := hmid.out.before; have := HML.out; have := HMM.out; have := HME.out; omega)
    generalize hds : es.drop (64 * j) = ds at *
    obtain ⟨n, hn⟩ : ∃ n, m - 64 * j = n := ⟨_, rfl⟩
    obtain ⟨cc, hcc⟩ : ∃ cc, c - 64 * j = cc := ⟨_, rfl⟩
    obtain ⟨oo, hoo⟩ : ∃ oo, o + 64 * j = oo := ⟨_, rfl⟩
    rw [hn] at HC1 HD HL ⊢
    rw [hoo] at HC1 ⊢
    rw [hcc]
    have hnc : n ≤ cc := by omega
    have HN := Lib.hid hn
    have HCC := Lib.hid hcc
    have HOO := Lib.hid hoo
    have hn1 : 1 ≤ n := by omega
    clear hn hcc hoo hds hj1 hce
    by_cases g : 64 < n
    · have gI : (64 : Int) < n := by omega
      have g2 : (64 : Int) ≤ cc := by omega
      go_wp2_with (fail)
      refine (next_any p b oo 64 ds y wr hy.out (fun k hk => HC1.out k (by omega)) (Nat.le_refl _) HP.out HT1.out (fun e => absurd e HB0.out) HBY.out).mono ?_
      rintro e w2 ⟨rfl, hx2, hb2⟩
      have HX2 := Lib.hid hx2
      have HB2 := Lib.hid (hbu.out.trans hb2)
      have HM2 := Lib.hid (hmid.out.next (ds := ds) (fun k hk => HD.out k (by omega)))
      clear hx2 hb2 hy hbu hmid HC1 HD
      have g3 : ¬ cc = 64 := by omega
      have g4 : (64 : Int) ≤ n := by omega
      go_wp2_with (fail)
      go_roundw
      case rel =>
        refine ⟨j + 1, _, ?_, ?_, HX2, by rw [show N + 1 + (j + 1) = N + 1 + j + 1 by omega]; exact HM2, HB2⟩
        · have := HN.out; have := HCC.out; have := HOO.out
          rw [show o + 64 * (j + 1) = oo + 64 by omega, show m - 64 * (j + 1) = n - 64 by omega, show c - 64 * (j + 1) = cc - 64 by omega]
        · have := HN.out; exact Lib.hid (by omega)
      case measure => simp [lenS]; omega
    · have gI : ¬ (64 : Int) < n := by omega
      have HG : Hid (wr.heap[p]? = some (.cells (hcells y).toArray 71 (0, 0))) := Lib.hid hy.out.1
      have HCS : Hid ((ds.map (Value.int .u8)).length = Nat.min n 64) := Lib.hid (by rw [List.length_map, HL.out]; exact (Nat.min_eq_left (by omega)).symm)
      have HSRC : Hid (∀ q v, (ds.map (Value.int .u8))[q]? = some v → wr.cell? ((⟨b, oo, none⟩ : Addr).add q) = some v) := Lib.hid fun q v hv => by
        have hq : q < n := by have := (List.getElem?_eq_some_iff.1 hv).1; rw [List.length_map, HL.out] at this; exact this
        rw [Addr.add_mid, HC1.out q hq, ← hv]
        simp [at_, show q < ds.length by rw [HL.out]; exact hq]
      have HFIT : Hid (10 + (ds.map (Value.int .u8)).length ≤ (hcells y).length) := Lib.hid (by rw [hcells_len hy.out.2, List.length_map, HL.out]; omega)
      have HLN : Hid (ds.length = n) := HL
      have hlen : (ds.map (Value.int .u8)).length = n := by rw [List.length_map, HL.out]
      clear HC1
      go_wp2_with (refine list_copyB rfl _ _ _ _ rfl 5 Tryd.underlying22 infoU8 (some ⟨p, 10, none⟩) (some ⟨b, oo, none⟩) 64 64 n cc rfl rfl p 10 (hcells y) 71 HG.out (ds.map (Value.int .u8)) HCS.out (fun _ => ⟨rfl, _, rfl, HSRC.out⟩) HFIT.out (oneU8 ds) ?_; intro w2 hg2 hb2; have hy2 := hash_copied hy.out 0 ds (by have := HLN.out; omega) hg2.out; have e74 := (hy2.cell 74).trans (hcells_used hy2.2); have f74 := hy2.free 74)
      have HY3 : HashAt (w2.setCell ⟨p, 74, none⟩ (.int .i64 n)) p { y with rest := splice y.rest 0 ds, used := n } := hy2.to (x' := { y with rest := splice y.rest 0 ds, used := n }) hy2.2 74 _ (set_used hy2.2 n)
      have HI3 : Inv { y with rest := splice y.rest 0 ds, used := n } h0 (msg ++ es) := by
        have := hmid.out.last (ds := ds) hy.out.2.2 (by rw [List.length_append, HML.out, HME.out, HLN.out]; have := HN.out; have := hj.out; omega) (by rw [HLN.out]; exact hn1) (by rw [HLN.out]; omega) (fun k hk => HD.out k (by rw [HLN.out] at hk; exact hk))
        rw [HLN.out] at this
        exact this
      have HB3 := (hbu.out.trans hb2).trans (But.set_ p 74 w2 (.int .i64 n))
      have HH3 := hmid.out.head
      go_end0
      exact ⟨rfl, ⟨_, HY3, HI3, HH3⟩, HB3⟩
end Go.Proofs.YtdjfklllfbenjaaDoor
