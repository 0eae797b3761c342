/- The reference's Read. -/
import Derived.Test.YtkofhjjfngnmmaaDoorXFo1
import Derived.Test.YtkofhjjfngnmmaaDoorG8
import Derived.Deep.RegionHeld3
namespace Go.Proofs.YtkofhjjfngnmmaaDoor
open Go.RowKit

/-- The digits among the bytes: all but '-'. -/
def fd (l : List UInt8) : List UInt8 := l.filter (fun c => c != 45)
theorem fd_snoc_minus (l : List UInt8) : fd (l ++ [45]) = fd l := by simp [fd]
theorem fd_snoc {l : List UInt8} {c : UInt8} (h : c ≠ 45) : fd (l ++ [c]) = fd l ++ [c] := by simp [fd, h]
theorem fd_digits {l : List UInt8} (h : l.all digB = true) : fd l = l := by
  unfold fd
  rw [List.filter_eq_self]
  intro c hc
  have := (List.all_eq_true.1 h) c hc
  simp only [digB, Bool.and_eq_true, decide_eq_true_eq] at this
  simp only [bne_iff_ne, ne_eq]
  rintro rfl
  have := this.1
  simp at this
theorem decV_lt_take {l : List UInt8} (h : l.all digB = true) : ∀ k, k ≤ l.length → decV (l.take k) < 10 ^ k
  | 0, _ => by simp [decV]
  | k + 1, hk => by
    have h1 := decV_lt_take h k (by omega)
    have h2 := (List.all_eq_true.1 h) (l[k]'(by omega)) (List.getElem_mem _)
    simp only [digB, Bool.and_eq_true, decide_eq_true_eq] at h2
    rw [decV_take (by omega), Nat.pow_succ]
    omega
theorem decV_lt {l : List UInt8} (h : l.all digB = true) : decV l < 10 ^ l.length := by
  have := decV_lt_take h l.length (Nat.le_refl _)
  rwa [List.take_length] at this
theorem decV_blen {l : List UInt8} (h : l.all digB = true) : blen (decV l) ≤ l.length := by
  refine blen_le (Nat.lt_of_lt_of_le (decV_lt h) ?_)
  exact Nat.pow_le_pow_left (by omega) _
/-- What the reference reads: a sign, then digits. -/
def ReadOk (l : List UInt8) : Prop := ∀ c ∈ l, c = 45 ∨ digB c = true
theorem fd_all {l : List UInt8} (h : ReadOk l) : (fd l).all digB = true := by
  rw [List.all_eq_true]
  intro c hc
  unfold fd at hc
  rw [List.mem_filter] at hc
  rcases h c hc.1 with e | e
  · subst e; simp at hc
  · exact e
theorem readOk_take {l : List UInt8} (h : ReadOk l) (k : Nat) : ReadOk (l.take k) := fun c hc => h c (List.mem_of_mem_take hc)
theorem fd_len (l : List UInt8) : (fd l).length ≤ l.length := List.length_filter_le _ _
/-- One byte in a block, as a natural number. -/
theorem bys_cell {w : World} {b : Nat} {T : TypeId} {x : Int} {v : Nat} (h : Var w b T #[.int .u8 x]) (hx : x = (v : Int)) (hv : v < 256) : Bys w w.heap.size (some ⟨b, 0, none⟩) (le v 1) := fun _ => by
  refine ⟨b, 0, rfl, h.lt, fun k hk => ?_⟩
  simp only [le_len] at hk
  obtain rfl : k = 0 := by omega
  rw [le_get _ _ _ (by omega), Nat.zero_add, h.cell, hx]
  have : byt v 0 = (v : Int) := by unfold byt; rw [Nat.pow_zero, Nat.div_one, Nat.mod_eq_of_lt hv]
  rw [this]
  rfl
theorem nat_cell {w : World} {b : Nat} {T : TypeId} (h : Var w b T #[.int .u8 10]) : NatIs w w.heap.size (.slice (some ⟨b, 0, none⟩) 1 1) 10 := by
  have e : blen 10 = 1 := by decide
  exact ⟨_, 1, by rw [e], by rw [e]; omega, by decide, by rw [e]; exact bys_cell h rfl (by omega)⟩
theorem nat_trimmed {w : World} {b : Nat} {d : Nat} (h : Bys w w.heap.size (some ⟨b, 0, none⟩) (le d 1)) (hd : d < 256) : NatIs w w.heap.size (.slice (some ⟨b, 0, none⟩) (blen d) 1) d := by
  have hl : blen d ≤ 1 := blen_le (by omega)
  refine ⟨_, 1, rfl, hl, by decide, fun h0 => ?_⟩
  simp only [le_len] at h0
  have e : blen d = 1 := by omega
  rw [e]
  exact h (by simp)

set_option maxRecDepth 100000 in
set_option maxHeartbeats 4000000 in
theorem read_any (l : List UInt8) (w : World) (h0 : l ≠ []) (hl : l.length ≤ 300) (hok : ReadOk l) :
    Calls Tryd.prog 41 #[.string ⟨l.toArray⟩] w (RetInt w (sgn (l.head? == some 45) (decV (fd l)))) := by
  obtain ⟨c, t, rfl⟩ := List.exists_cons_of_ne_nil h0
  obtain ⟨hv0, hbW, hsz⟩ := boxes1 w 24 #[.bool false, .slice none 0 0]
  have HV := Lib.hid hv0
  have HB := Lib.hid hbW
  have HOK := Lib.hid hok
  have hl2 : (t.length : Int) + 1 ≤ 300 := by simp only [List.length_cons] at hl; omega
  obtain ⟨ng, hng⟩ : ∃ ng, ng = ((c :: t).head? == some 45) := ⟨_, rfl⟩
  have hng2 : ((((⟨(c :: t).toArray⟩ : ByteArray)[0]'(Nat.zero_lt_succ _)).toNat : Int) == 45) = ng := by
    rw [hng]
    show ((c.toNat : Int) == 45) = (some c == some 45)
    by_cases h : c = 45
    · subst h; rfl
    · have : c.toNat ≠ 45 := fun e => h (by have := u8_of (n := 45) e (by decide); exact this)
      have e1 : ((c.toNat : Int) == 45) = false := by simp; omega
      have e2 : (some c == some (45 : UInt8)) = false := by simpa using h
      rw [e1, e2]
  rw [← hng]
  have HL := Lib.hid hl
  clear hv0 hbW hsz h0 hok hng hl
  go_enter Tryd.func41, Tryd.ntmps41
  go_wp2_with (fail)
  go_loopw [4, 5] (fun x i wr => ∃ k : Nat, k ≤ (c :: t).length ∧ i = .int .i64 k ∧ Hid (NatIs wr wr.heap.size x (decV (fd ((c :: t).take k)))) ∧ Hid (Var wr w.heap.size 24 #[.bool false, .slice none 0 0]) ∧ Hid (Below w.heap.size w wr)) (fun _ i _ => (c :: t).length - (intOf i).toNat)
  case atStart => exact ⟨0, Nat.zero_le _, rfl, Lib.hid ⟨none, 0, by simp [fd, decV, blen_zero], by simp [fd, decV, blen_zero], Nat.zero_le _, fun h => by simp [fd, decV, blen_zero] at h⟩, HV, HB⟩
  case round =>
    obtain ⟨k, hk, rfl, hn, hv, hb⟩ := hrel
    clear HV HB
    have HNB := Lib.hid (show blen (decV (fd ((c :: t).take k))) ≤ 300 from Nat.le_trans (decV_blen (fd_all (readOk_take HOK.out k))) (Nat.le_trans (fd_len _) (Nat.le_trans (by rw [List.length_take]; exact Nat.min_le_right _ _) HL.out)))
    by_cases hlt : k < (c :: t).length
    · have hs : k < (⟨(c :: t).toArray⟩ : ByteArray).size := hlt
      have hi : (k : Int) < (t.length : Int) + 1 := by simp only [List.length_cons] at hlt; omega
      have hel : (⟨(c :: t).toArray⟩ : ByteArray)[k]'hs = (c :: t)[k] := rfl
      have htk : (c :: t).take (k + 1) = (c :: t).take k ++ [(c :: t)[k]] := List.take_succ_eq_append_getElem hlt
      have hor := HOK.out _ (List.getElem_mem hlt)
      generalize hx : (⟨(c :: t).toArray⟩ : ByteArray)[k]'hs = x at *
      rw [← hel] at hor htk
      by_cases h45 : x = 45
      · have hd : ((x.toNat : Int) == 45) = true := by rw [h45]; rfl
        have HN := Lib.hid (show decV (fd ((c :: t).take (k + 1))) = decV (fd ((c :: t).take k)) by rw [htk, h45, fd_snoc_minus])
        have HX := Lib.hid hx
        have hx' : (((⟨(c :: t).toArray⟩ : ByteArray)[k]'hs).toNat : Int) = (x.toNat : Int) := by rw [hx]
        clear hel htk hor h45 hx
        go_wp2_with (fail)
        go_roundw
        case rel => exact ⟨k + 1, by omega, by go_num, by rw [HN.out]; exact hn, hv, hb⟩
        case measure => simp only [List.length_cons] at hlt ⊢; simp [intOf]; omega
      · have hdg : digB x = true := by
          rcases hor with e | e
          · exact absurd e h45
          · exact e
        simp only [digB, Bool.and_eq_true, decide_eq_true_eq] at hdg
        obtain ⟨d, hd0⟩ : ∃ d, d = x.toNat - 48 := ⟨_, rfl⟩
        have hd : ((x.toNat : Int) == 45) = false := by simp; omega
        have hw : IntKind.u8.wrap ((x.toNat : Int) - 48) = (d : Int) := by rw [IntKind.wrap_u8]; omega
        have HN := Lib.hid (show decV (fd ((c :: t).take (k + 1))) = decV (fd ((c :: t).take k)) * 10 + d by rw [htk, fd_snoc h45, decV_snoc, hd0])
        have HD := Lib.hid (show d < 256 by omega)
        have hx' : (((⟨(c :: t).toArray⟩ : ByteArray)[k]'hs).toNat : Int) = (x.toNat : Int) := by rw [hx]
        clear hel htk hor h45 hx hdg hd0
        go_wp2_with (fail)
        generalize hV : decV (fd ((c :: t).take k)) = V at *
        clear hV
        have HB10 := Lib.hid (show blen (V * 10) < 1000000 from Nat.lt_of_le_of_lt (blen_mul (b := 301) (by rw [show blen 10 = 1 from by decide]; have := HNB.out; omega)) (by omega))
        have HBD := Lib.hid (show blen d < 1000000 from Nat.lt_of_le_of_lt (blen_le (n := 1) (by have := HD.out; omega)) (by omega))
        have HBV := Lib.hid (show blen V < 1000000 from Nat.lt_of_le_of_lt HNB.out (by omega))
        have HB1 := Lib.hid (show blen 10 < 1000000 from by decide)
        have HD1 := Lib.hid (show d < 256 ^ 1 from by have := HD.out; omega)
        have HM1 := Lib.hid (show (1 : Nat) ≤ maxLen from by decide)
        go_region_held3 (fun _ => True) (trivial)
          (first
            | (go_at_call 55; refine (times_nat _ _ V 10 _ ?_ ?_ HBV.out HB1.out).mono ?_; (first | exact hn.out.next (below_alloc wr _).drew | exact hn.out.next (bal (below_alloc wr _) _).drew); (first | exact nat_cell (Var.new wr 5 #[.int .u8 10]) | exact nat_cell (boxes2 wr 5 5 #[.int .u8 (d : Int)] #[.int .u8 10]).2.1 | exact nat_cell (boxes2 wr 5 5 #[.int .u8 10] #[.int .u8 (d : Int)]).1); rintro e w2 ⟨⟨x1, rfl, n1⟩, hq⟩; (first | have hB := bstep (below_alloc wr _).drew hq | have hB := bstep (bal (below_alloc wr _) _).drew hq); (first | have hD := Var.below (w := ((wr.alloc (.cells #[.int .u8 10] 5)).alloc (.cells #[.int .u8 (d : Int)] 5)).drew) (boxes2 wr 5 5 #[.int .u8 10] #[.int .u8 (d : Int)]).2.1 hq (by simp) | have hD := Var.below (w := ((wr.alloc (.cells #[.int .u8 (d : Int)] 5)).alloc (.cells #[.int .u8 10] 5)).drew) (boxes2 wr 5 5 #[.int .u8 (d : Int)] #[.int .u8 10]).1 hq (by simp; omega) | skip); clear hq)
            | (go_at_call 67; (first | (refine (trim_any _ 1 1 d _ _ (bys_cell hD rfl HD.out) HD1.out (Nat.le_refl _) HM1.out).mono ?_; have n2 := nat_trimmed (bys_cell hD rfl HD.out) HD.out; have n1' := n1) | (have hD := Var.new w2 5 #[.int .u8 (d : Int)]; refine (trim_any _ 1 1 d _ _ (bys_cell hD rfl HD.out) HD1.out (Nat.le_refl _) HM1.out).mono ?_; have n2 := nat_trimmed (bys_cell hD rfl HD.out) HD.out; have n1' := n1.next (below_alloc w2 (.cells #[.int .u8 (d : Int)] 5)); have hB := bal hB (.cells #[.int .u8 (d : Int)] 5))); rintro e w' ⟨rfl, rfl⟩)
            | (go_at_call 53; refine (plus_nat _ _ (V * 10) d _ n1' n2 HB10.out HBD.out).mono ?_; rintro e w3 ⟨⟨x3, rfl, n3⟩, hq⟩; have hB := bstep hB hq; clear hq))
        all_goals
          have HN3 := Lib.hid n3
          have HV3 := Lib.hid (hv.out.below hB hv.out.lt)
          have HB3 := Lib.hid (bstep hb.out hB)
          clear n3 hB n1 n2 n1' hD
          go_wp2_with (fail)
          go_roundw
          case rel => exact ⟨k + 1, by omega, by go_num, by rw [HN.out]; exact HN3, HV3, HB3⟩
          case measure => simp only [List.length_cons] at hlt ⊢; simp [intOf]; omega
    · have hke : k = (c :: t).length := by omega
      have hi : decide ((k : Int) < (t.length : Int) + 1) = false := by simp only [List.length_cons] at hke; simp; omega
      rw [hke, List.take_length] at hn HNB
      have hv0 := hv.out.cell 0
      have hv1 := hv.out.cell 1
      simp only [List.getElem?_toArray, List.getElem?_cons_succ, List.getElem?_cons_zero] at hv0 hv1
      clear hke hlt
      go_wp2_with (fail)
      clear hv0 hv1
      refine (make_nat ng _ _ _ hn.out (Nat.lt_of_le_of_lt HNB.out (by omega))).mono ?_
      rintro e w2 ⟨⟨x, rfl, hi2⟩, hq⟩
      obtain ⟨f2, A2, n2, c2, rfl, hi3, -, -⟩ := hi2.look
      have hv2 := hv.out.below hq hv.out.lt
      have s0 := hv2.cell 0; have s1 := hv2.cell 1; have t0 := hv2.free 0; have t1 := hv2.free 1
      simp only [List.getElem?_toArray, List.getElem?_cons_succ, List.getElem?_cons_zero] at s0 s1
      have HX := Lib.hid (retInt_store hi3 hv2 (bstep hb.out hq) (Nat.le_refl _))
      clear hi2 hi3 hv2 hq
      go_wp2_with (fail)
      exact bodyPost_ret (by simp [results, Tryd.results41, go_sem, s0, s1]) rfl HX.out
end Go.Proofs.YtkofhjjfngnmmaaDoor
