/- The reference: Hash. -/
import Derived.Test.YtdjfklllfbenjaaDoorBr3
import Derived.Test.YtdjfklllfbenjaaDoorBr4
namespace Go.Proofs.YtdjfklllfbenjaaDoor
open Go.RowKit

theorem OwnW.keepsT {w w' : World} {B : Nat} {v : Value} {ds : List Int} (h : OwnW w B v ds) (hk : KeepsT w w') : OwnW w' B v ds := by
  refine ⟨h.1, ?_⟩
  rcases h.2 with h2 | ⟨g, cap, cur, e, hb, hg, r⟩
  · exact .inl h2
  · exact .inr ⟨g, cap, cur, e, hb, (hk g cur 64 hg (by decide)).trans hg, r⟩
theorem OwnW.new8 (w : World) (B : Nat) (hB : B ≤ w.heap.size) : OwnW (w.alloc (.cells (u32s iv) 64)) B (.slice (some ⟨w.heap.size, 0, none⟩) 8 8) iv := by
  refine ⟨by first | rfl | simp | decide, .inr ⟨w.heap.size, 8, u32s iv, rfl, hB, heap_alloc_new w _, ?_, ?_, ?_, ?_⟩⟩ <;> first | decide | rfl | (simp; done)
theorem pad_stop {N j : Nat} (h : N + j ≤ 64 * (nb N + 1)) (h0 : N + j ≠ 0) (h1 : (N + j) % 64 = 0) : N + j = 64 * (nb N + 1) := by unfold nb at *; omega
theorem pad_more {N j : Nat} (h : N + j ≤ 64 * (nb N + 1)) (h1 : N + j = 0 ∨ (N + j) % 64 ≠ 0) : N + (j + 1) ≤ 64 * (nb N + 1) := by unfold nb at *; omega
theorem pad_at (msg : List Int) (j k : Nat) : at_ (msg ++ List.replicate j 0) k = at_ msg k := by
  unfold at_
  rcases Nat.lt_or_ge k msg.length with h | h
  · rw [List.getElem?_append_left h]
  · rw [List.getElem?_append_right h, List.getElem?_eq_none h, List.getElem?_replicate]
    split <;> rfl
def stR (h0 msg : List Int) (i : Nat) : List Int := if i ≤ nb msg.length then foldL h0 msg i else hashS h0 msg
theorem stR_len {h0 : List Int} (msg : List Int) (h : h0.length = 8) (i : Nat) : (stR h0 msg i).length = 8 := by
  unfold stR
  split
  · exact foldL_len msg h i
  · exact comprL_len _ _ _ _
theorem stR_zero (h0 msg : List Int) : stR h0 msg 0 = h0 := by unfold stR; rw [if_pos (Nat.zero_le _)]; rfl
theorem stR_all (h0 msg : List Int) : stR h0 msg (nb msg.length + 1) = hashS h0 msg := by unfold stR; rw [if_neg (by omega)]
theorem stR_mid (h0 msg : List Int) (i j : Nat) (ds : List Int) (hi : i < nb msg.length) (hd : ∀ k, k < 64 → at_ ds k = at_ (msg ++ List.replicate j 0) (64 * i + k)) : comprL (stR h0 msg i) (wordsL ds) ((64 * i + 64 : Nat) : Int) 0 = stR h0 msg (i + 1) := by
  unfold stR
  rw [if_pos (by omega), if_pos (by omega), wordsL_congr (ds := ds) (es := msg.drop (64 * i)) (fun k hk => by rw [hd k hk, pad_at, at_drop])]
  rfl
theorem stR_last (h0 msg : List Int) (j : Nat) (ds : List Int) (hd : ∀ k, k < 64 → at_ ds k = at_ (msg ++ List.replicate j 0) (64 * nb msg.length + k)) : comprL (stR h0 msg (nb msg.length)) (wordsL ds) (msg.length : Int) 4294967295 = stR h0 msg (nb msg.length + 1) := by
  rw [stR_all]
  unfold stR
  rw [if_pos (Nat.le_refl _), wordsL_congr (ds := ds) (es := msg.drop (64 * nb msg.length)) (fun k hk => by rw [hd k hk, pad_at, at_drop])]
  rfl
def bytesN (s : List Int) (k : Nat) : List Int := (List.range (4 * k)).map (byteAt s)
theorem bytesN_len (s : List Int) (k : Nat) : (bytesN s k).length = 4 * k := by simp [bytesN]
theorem bytesN_succ (s : List Int) (k : Nat) : bytesN s k ++ [byteAt s (4 * k), byteAt s (4 * k + 1), byteAt s (4 * k + 2), byteAt s (4 * k + 3)] = bytesN s (k + 1) := by
  unfold bytesN
  rw [show 4 * (k + 1) = 4 * k + 1 + 1 + 1 + 1 by omega]
  simp [List.range_succ]
theorem four_cells (w : World) {x0 x1 x2 x3 y0 y1 y2 y3 : Int} (h0 : x0 % 256 = y0) (h1 : x1 % 256 = y1) (h2 : x2 % 256 = y2) (h3 : x3 % 256 = y3) :
    ∀ j, j < [y0, y1, y2, y3].length → ((w.alloc (.cells #[.int .u8 (IntKind.u8.wrap x0), .int .u8 (IntKind.u8.wrap x1), .int .u8 (IntKind.u8.wrap x2), .int .u8 (IntKind.u8.wrap x3)] 5)).drew).cell? ⟨w.heap.size, j, none⟩ = some (.int .u8 (at_ [y0, y1, y2, y3] j)) := by
  intro j hj
  show (w.alloc _).cell? _ = _
  rw [IntKind.wrap_u8, IntKind.wrap_u8, IntKind.wrap_u8, IntKind.wrap_u8, h0, h1, h2, h3]
  have hj : j < 4 := hj
  match j, hj with
  | 0, _ => rw [World.cell?_alloc_at _ _ _ _ rfl]; rfl
  | 1, _ => rw [World.cell?_alloc_at _ _ _ _ rfl]; rfl
  | 2, _ => rw [World.cell?_alloc_at _ _ _ _ rfl]; rfl
  | 3, _ => rw [World.cell?_alloc_at _ _ _ _ rfl]; rfl
def lenV (v : Value) : Nat := match v with | .slice _ k _ => k | _ => 0
set_option maxRecDepth 100000 in
set_option maxHeartbeats 4000000 in
theorem rhash_any (A B : Option Addr) (n c m cb : Nat) (kd bd : List Int) (w : World) (hn : kd.length = n) (h32 : n ≤ 32) (hk : PartAt w w.heap.size (.slice A n c) kd) (hb : PartAt w w.heap.size (.slice B m cb) bd) (hm : bd.length = m) (hmax : m < 1000000000) (hA : A = none → c = 0) (hBn : B = none → cb = 0) :
    Calls Tryd.prog 16 #[.slice A n c, .slice B m cb] w fun e w' => (∃ v', e = .returned v' ∧ Own w' w.heap.size v' (hashB kd bd)) ∧ Below w.heap.size w w' := by
  have HK := Lib.hid hk
  have HBD := Lib.hid hb
  have HN := Lib.hid hn
  have HM := Lib.hid hm
  clear hk hb hn hm
  go_enter Tryd.func16, Tryd.ntmps16
  generalize hp : w.heap.size = p at *
  have HPP := Lib.hid hp
  clear hp
  have HO0 : Hid (Own w p (.slice none 0 0) []) := Lib.hid (Own.nil_ _ _)
  have HB0 : Hid (Below p w w) := Lib.hid (Below.refl _ _)
  go_upto_if 14 with (fail)
  generalize hbb : decide (0 < n) = bb
  go_cut [5] from 15 to 23 (fun v wx => Hid (Own wx p v (kmsg kd)) ∧ Hid (Below p w wx))
  case first =>
    rcases Nat.eq_zero_or_pos n with g | g
    · have e : [] = kmsg kd := by unfold kmsg; rw [if_pos (by rw [HN.out]; exact g)]
      rw [e] at HO0
      obtain rfl : bb = false := by rw [← hbb]; exact decide_eq_false (by omega)
      go_wp2_with (fail)
      go_meet
      exact ⟨HO0, HB0⟩
    · obtain rfl : bb = true := by rw [← hbb]; exact decide_eq_true g
      go_wp2_with (at_builtin; refine appBs rfl _ _ _ rfl Tryd.underlying22 rfl HO0.out HB0.out (by rw [HPP.out]; exact Nat.le_refl _) A n c p kd rfl hA HK.out HN.out (by simp; omega) ?_; intro v1 w1 h1 h2 h3)
      have HO1 : Hid (Own w1 p v1 (kd ++ List.replicate 0 0)) := Lib.hid (by rw [List.replicate_zero, List.append_nil]; exact h1)
      have HB1 := Lib.hid h2
      clear h1 h2 h3 HO0 HB0
      go_wp2_with (fail)
      go_loopw [5] (fun v wx => ∃ j : Nat, n + j ≤ 64 ∧ Hid (Own wx p v (kd ++ List.replicate j 0)) ∧ Hid (Below p w wx)) (fun v _ => 64 - lenV v)
      case atStart => exact ⟨0, by omega, HO1, HB1⟩
      case round =>
        obtain ⟨j, hj, ho, hbl⟩ := hrel
        clear HO1 HB1
        obtain ⟨A1, c1, rfl, -⟩ := ho.out.part
        obtain ⟨z, hz⟩ : ∃ z, n + j = z := ⟨_, rfl⟩
        have L1 : (kd ++ List.replicate j 0).length = z := by rw [List.length_append, List.length_replicate, HN.out, hz]
        rw [L1] at ho ⊢
        have hsz : p ≤ wr.heap.size := by have := hbl.out.size; rw [HPP.out] at this; exact this
        by_cases g1 : z < 64
        · have gJ : (z : Int) < 64 := by omega
          have HOA := Lib.hid (ho.out.keep (fun g hg => Below.heap_alloc wr (.cells #[.int .u8 0] 5) g hg))
          have HBA := Lib.hid (hbl.out.alloc hsz (.cells #[.int .u8 0] 5))
          have HZ := Lib.hid hz
          have HL1 := Lib.hid L1
          clear ho hbl hz L1
          go_wp2_with (at_builtin; refine app1 rfl _ _ _ rfl Tryd.underlying22 rfl HOA.out HBA.out ?c1 wr.heap.size 0 rfl ?c2 ?c3 ?_)
          case c1 => simp; omega
          case c2 => rw [World.cell?_alloc_at _ _ _ _ rfl]; rfl
          case c3 => rw [HL1.out]; omega
          intro x' w2 hown1 hbl1
          have HO2 : Hid (Own w2 p x' (kd ++ List.replicate (j + 1) 0)) := Lib.hid (by rw [List.replicate_succ']; first | exact hown1 | (rw [← List.append_assoc]; exact hown1))
          have HB2 := Lib.hid hbl1
          obtain ⟨A2, c2, e2, -⟩ := hown1.part
          have e3 : lenV x' = z + 1 := by rw [e2]; simp only [lenV]; have := HL1.out; simp only [List.length_append, List.length_cons, List.length_nil] at this ⊢; omega
          clear hown1 hbl1 HOA HBA hsz e2
          go_wp2_with (fail)
          go_roundw
          case rel => exact ⟨j + 1, by have := HZ.out; omega, HO2, HB2⟩
          case measure => rw [e3]; show 64 - (z + 1) < 64 - z; omega
        · obtain rfl : z = 64 := by omega
          have e : kd ++ List.replicate j 0 = kmsg kd := by
            unfold kmsg
            rw [if_neg (by rw [HN.out]; omega), show j = 64 - kd.length by rw [HN.out]; omega]
          rw [e] at ho
          go_wp2_with (fail)
          go_meet
          exact ⟨ho, hbl⟩
  case rest =>
  obtain ⟨hv, hb⟩ := hcut
  clear HO0 HB0
  obtain ⟨A1, c1, rfl, -⟩ := hv.out.part
  have hsz : p ≤ wc.heap.size := by have := hb.out.size; rw [HPP.out] at this; exact this
  have HP1 : PartAt wc p (.slice B m cb) bd := PartAt.later (w := w) (by rw [HPP.out]; exact HBD.out) (by rw [HPP.out]; exact hb.out) (by rw [HPP.out]; exact Nat.le_refl _)
  have hkl : (kmsg kd).length ≤ 64 := kmsg_len kd (by rw [HN.out]; exact h32)
  go_wp2_with (at_builtin; refine appBs rfl _ _ _ rfl Tryd.underlying22 rfl hv.out hb.out hsz B m cb p bd rfl hBn HP1 HM.out (by omega) ?_; intro v2 w2 h1 h2 h3)
  have HLM : Hid ((kmsg kd ++ bd).length < 1000000064) := Lib.hid (by rw [List.length_append, HM.out]; omega)
  have HO2 := Lib.hid h1
  have HB2 := Lib.hid h2
  have HJ : Hid (hashB kd bd = bytesL (hashS (hk0 n) (kmsg kd ++ bd))) := Lib.hid (by unfold hashB; rw [HN.out])
  generalize kmsg kd ++ bd = msg at *
  clear h1 h2 h3 hv hb HP1 hkl hsz HBD HK
  go_wp2_with (fail)
  refine (words_any w2).mono ?_
  rintro e w3 ⟨rfl, rfl⟩
  have HW := Lib.hid (OwnW.new8 w2 p (by have := HB2.out.size; rw [HPP.out] at this; exact this))
  have HO3 := Lib.hid (HO2.out.below (Below.new w2 (.cells (u32s iv) 64)))
  have HB3 := Lib.hid (HB2.out.alloc (by have := HB2.out.size; rw [HPP.out] at this; exact this) (.cells (u32s iv) 64))
  have q3 : w2.heap.size < (w2.alloc (.cells (u32s iv) 64)).heap.size := by simp
  have c0 : (w2.alloc (.cells (u32s iv) 64)).cell? ⟨w2.heap.size, 0, none⟩ = some (.int .u32 1779033703) := (U32.new w2 64 iv).cell 0 (by decide)
  have f0 : (w2.alloc (.cells (u32s iv) 64)).frozen? ⟨w2.heap.size, 0, none⟩ = false := (U32.new w2 64 iv).free 0
  have HLQ : Hid (p ≤ w2.heap.size) := Lib.hid (by have := HB2.out.size; rw [HPP.out] at this; exact this)
  have HW4 : Hid (OwnW ((w2.alloc (.cells (u32s iv) 64)).setCell ⟨w2.heap.size, 0, none⟩ (.int .u32 (bits .xor .u32 1779033703 (16842784 + (n : Int) * 256)))) p (.slice (some ⟨w2.heap.size, 0, none⟩) 8 8) (hk0 n)) := Lib.hid (HW.out.set_ (j := 0) (bits .xor .u32 1779033703 (16842784 + (n : Int) * 256)))
  have HO4 : Hid (Own ((w2.alloc (.cells (u32s iv) 64)).setCell ⟨w2.heap.size, 0, none⟩ (.int .u32 (bits .xor .u32 1779033703 (16842784 + (n : Int) * 256)))) p v2 msg) := Lib.hid (HO2.out.below ((Below.new w2 (.cells (u32s iv) 64)).setCell (p := ⟨w2.heap.size, 0, none⟩) (Nat.le_refl _) _))
  have HB4 : Hid (Below p w ((w2.alloc (.cells (u32s iv) 64)).setCell ⟨w2.heap.size, 0, none⟩ (.int .u32 (bits .xor .u32 1779033703 (16842784 + (n : Int) * 256))))) := Lib.hid (HB3.out.setCell (p := ⟨w2.heap.size, 0, none⟩) HLQ.out _)
  have hn32 : (n : Int) ≤ 32 := by omega
  have hw1 : (n : Int) % 4294967296 = n := by omega
  have hw2 : (n : Int) * 256 % 4294967296 = n * 256 := by omega
  have hw3 : (16842784 + (n : Int) * 256) % 4294967296 = 16842784 + n * 256 := by omega
  clear HW HO3 HB3 HO2 HB2
  generalize w2.alloc (.cells (u32s iv) 64) = w3 at *
  generalize w2.heap.size = q at *
  obtain ⟨A2, c2, rfl, -⟩ := HO4.out.part
  go_wp2_with (fail)
  generalize w3.setCell ⟨q, 0, none⟩ (.int .u32 (bits .xor .u32 1779033703 (16842784 + (n : Int) * 256))) = w4 at *
  clear c0 f0 hw1 hw2 hw3 hn32 q3
  generalize hN : msg.length = N at *
  have HOZ : Hid (Own w4 p (.slice A2 N c2) (msg ++ List.replicate 0 0)) := Lib.hid (by rw [List.replicate_zero, List.append_nil]; exact HO4.out)
  have HNB : Hid (64 * (nb N + 1) < 1000001000) := Lib.hid (by have := HLM.out; unfold nb; omega)
  have HNN := Lib.hid hN
  clear HO4 hN HLM
  go_loopw [5] (fun v wx => ∃ j : Nat, N + j ≤ 64 * (nb N + 1) ∧ Hid (Own wx p v (msg ++ List.replicate j 0)) ∧ Hid (Below p w wx) ∧ Hid (OwnW wx p (.slice (some ⟨q, 0, none⟩) 8 8) (hk0 n))) (fun v _ => 64 * (nb N + 1) - lenV v)
  case atStart => exact ⟨0, by unfold nb; omega, HOZ, HB4, HW4⟩
  case round =>
    obtain ⟨j, hj, ho, hbl, hw⟩ := hrel
    clear HOZ HB4 HW4
    obtain ⟨A3, c3, rfl, -⟩ := ho.out.part
    obtain ⟨z, hz⟩ : ∃ z, N + j = z := ⟨_, rfl⟩
    have L1 : (msg ++ List.replicate j 0).length = z := by rw [List.length_append, List.length_replicate, HNN.out, hz]
    rw [L1] at ho ⊢
    have hsz : p ≤ wr.heap.size := by have := hbl.out.size; rw [HPP.out] at this; exact this
    have HZB : Hid (z ≤ 64 * (nb N + 1)) := Lib.hid (hz ▸ hj)
    by_cases g1 : z = 0
    · have HMO : Hid (z + 1 ≤ 64 * (nb N + 1)) := Lib.hid (by have := pad_more hj (.inl (hz.trans g1)); omega)
      have gI : (z : Int) = 0 := by omega
      have HOA := Lib.hid (ho.out.keep (fun g hg => Below.heap_alloc wr (.cells #[.int .u8 0] 5) g hg))
      have HBA := Lib.hid (hbl.out.alloc hsz (.cells #[.int .u8 0] 5))
      have HWA := Lib.hid (hw.out.keep (fun g hg => Below.heap_alloc wr (.cells #[.int .u8 0] 5) g hg))
      have HZ := Lib.hid hz
      have HL1 := Lib.hid L1
      clear ho hbl hz L1 hw
      go_wp2_with (at_builtin; refine appB1 rfl _ _ _ rfl Tryd.underlying22 rfl HOA.out HBA.out ?c1 wr.heap.size 0 rfl ?c2 ?c3 ?_)
      case c1 => simp; omega
      case c2 => rw [World.cell?_alloc_at _ _ _ _ rfl]; rfl
      case c3 => rw [HL1.out]; have := HZB.out; have := HNB.out; omega
      intro x' w5 hown1 hbl1 hkt1
      have HO5 : Hid (Own w5 p x' (msg ++ List.replicate (j + 1) 0)) := Lib.hid (by rw [List.replicate_succ']; first | exact hown1 | (rw [← List.append_assoc]; exact hown1))
      have HB5 := Lib.hid hbl1
      have HW5 := Lib.hid (HWA.out.keepsT hkt1)
      obtain ⟨A3, c3, e2, -⟩ := hown1.part
      have e3 : lenV x' = z + 1 := by rw [e2]; simp only [lenV]; have := HL1.out; simp only [List.length_append, List.length_cons, List.length_nil] at this ⊢; omega
      clear hown1 hbl1 hkt1 HOA HBA HWA hsz e2
      go_wp2_with (fail)
      go_roundw
      case rel => exact ⟨j + 1, by have := HMO.out; have := HZ.out; omega, HO5, HB5, HW5⟩
      case measure => rw [e3]; show 64 * (nb N + 1) - (z + 1) < 64 * (nb N + 1) - z; have := HMO.out; omega
    · by_cases g2 : z % 64 = 0
      · have hall := pad_stop hj (by omega) (by omega)
        rw [hz] at hall
        have gI : ¬ (z : Int) = 0 := by omega
        have gR : (z : Int) % 64 = 0 := by omega
        have gT : Int.tmod (z : Int) 64 = 0 := by rw [Int.tmod_eq_emod_of_nonneg (by omega)]; omega
        have HALL := Lib.hid hall
        have HZ := Lib.hid hz
        clear hall hz hj
        go_wp2_with (fail)
        obtain ⟨A4, c4, e4, hle4, hA4⟩ := ho.out.part
        rw [L1] at e4 hle4 hA4
        obtain ⟨rfl, rfl⟩ : A3 = A4 ∧ c3 = c4 := by simpa using e4
        obtain ⟨gb, ob, rfl, -, hgb, hbc⟩ := hA4 (by omega)
        have HBC := Lib.hid hbc
        have HCP := Lib.hid hle4
        have HBL := hbl
        clear hA4 e4 hle4 hbc ho hbl L1
        generalize hsw : wr.heap.size = sz at *
        have HSZ := Lib.hid hsw
        have HGB := Lib.hid hgb
        have HPZ := Lib.hid hsz
        clear hsw hgb hsz
        generalize wr = W4 at *
        have HHW : Hid (OwnW W4 p (.slice (some ⟨q, 0, none⟩) 8 8) (stR (hk0 n) msg 0)) := Lib.hid (by rw [stR_zero]; exact hw.out)
        have HB0 : Hid (Below sz W4 W4) := Lib.hid (Below.refl _ _)
        clear hw
        go_wp2_with (fail)
        have gE0 : ((z : Int) == 0) = false := by rw [beq_eq_false_iff_ne]; omega
        try rw [gE0]
        clear gE0
        go_loopw [6, 8, 9] (fun vh v8 _ wx => ∃ i a : Nat, a = 64 * i ∧ i ≤ nb N + 1 ∧ v8 = .int .i64 (a : Int) ∧ Hid (OwnW wx p vh (stR (hk0 n) msg i)) ∧ Hid (Below sz W4 wx)) (fun _ v8 _ _ => 64 * (nb N + 1) - (intOf v8).toNat)
        case atStart => exact ⟨0, 0, rfl, Nat.zero_le _, rfl, HHW, HB0⟩
        case round =>
          obtain ⟨i, a, ha, hi, rfl, ho, hb⟩ := hrel
          clear HHW HB0
          have HSW : Hid (sz ≤ wr.heap.size) := Lib.hid (by have := hb.out.size; rw [HSZ.out] at this; exact this)
          have HPW : Hid (p ≤ wr.heap.size) := Lib.hid (Nat.le_trans HPZ.out HSW.out)
          have hlenR : (stR (hk0 n) msg i).length = 8 := stR_len msg (hk0_len n) i
          obtain ⟨gh, ch, rfl, -, hgh, -, hhc, -⟩ := ho.out.form (by omega)
          rw [hlenR] at hhc ⊢
          have HHC := Lib.hid hhc
          have HGH := Lib.hid hgh
          have HBR := hb
          clear hhc hgh
          by_cases g4 : i < nb N + 1
          · have hall := HALL.out
            have gJ : (a : Int) < (z : Int) := by omega
            have k1 : (0 : Int) ≤ (a : Int) := by omega
            have k2 : (a : Int) ≤ (a : Int) + 64 := by omega
            have k3 : (0 : Int) ≤ (a : Int) + 64 := by omega
            have k4 : (a : Int) + 64 ≤ (c3 : Int) := by have := HCP.out; omega
            have k5 : ((a : Int) + 64).toNat = a + 64 := by omega
            have k6 : a + 64 - a = 64 := by omega
            have k7 : IntKind.i64.wrap ((a : Int) + 64) = a + 64 := by rw [IntKind.wrap_i64]; have := HNB.out; omega
            have k8 : a ≤ a + 64 := by omega
            have k9 : a + 64 ≤ c3 := by have := HCP.out; omega
            by_cases g5 : i < nb N
            · have gG : ¬ (N : Int) < (a : Int) + 64 := by unfold nb at g5; omega
              have gH : ((a : Int) + 64 == (z : Int)) = false := by rw [beq_eq_false_iff_ne]; omega
              have gh2 : ¬ (a : Int) + 64 = (z : Int) := by omega
              have HDA : Hid (∀ k, k < 64 → at_ ((msg ++ List.replicate j 0).drop a) k = at_ (msg ++ List.replicate j 0) (64 * i + k)) := Lib.hid (fun k hk => by rw [at_drop, ← ha])
              have HDC : Hid (∀ k, k < 64 → wr.cell? ⟨gb, ob + a + k, none⟩ = some (.int .u8 (at_ ((msg ++ List.replicate j 0).drop a) k))) := Lib.hid (fun k hk => by rw [at_drop, Nat.add_assoc]; exact kept_cell hb.out (HBC.out (a + k) (by omega)) HGB.out)
              have HNX : Hid (comprL (stR (hk0 n) msg i) (wordsL ((msg ++ List.replicate j 0).drop a)) ((a : Int) + 64) (markOf false) = stR (hk0 n) msg (i + 1)) := Lib.hid (by have h := stR_mid (hk0 n) msg i j ((msg ++ List.replicate j 0).drop a) (by rw [HNN.out]; exact g5) HDA.out; rw [← ha, show ((a + 64 : Nat) : Int) = (a : Int) + 64 by omega] at h; exact h)
              have hgbw : gb < wr.heap.size := by have := hb.out.size; rw [HSZ.out] at this; have := HGB.out; omega
              have HA := Lib.hid ha
              clear hb ho ha hall hlenR k6 k8
              go_wp2_with (fail)
              refine (rcomp_any gh 0 ch gb (ob + a) _ (stR (hk0 n) msg i) ((msg ++ List.replicate j 0).drop a) ((a : Int) + 64) false wr (stR_len msg (hk0_len n) i) HGH.out (fun k hk => by rw [Nat.zero_add]; exact HHC.out k hk) hgbw HDC.out).mono ?_
              rintro e w6 ⟨⟨v6, rfl, h6⟩, q6⟩
              rw [HNX.out] at h6
              have HO6 := Lib.hid (h6.less HPW.out)
              have HB6 := Lib.hid (HBR.out.trans (q6.mono HSW.out))
              clear h6 q6 HDC HNX HDA
              go_wp2_with (fail)
              clear k1 k2 k3 k4 k5 k7 k9 gH gh2 gG gJ
              go_roundw
              case rel => first | exact ⟨i + 1, a + 64, by have := HA.out; omega, by omega, by first | go_num | (push_cast; rfl) | rfl, HO6, HB6⟩ | ((repeat (apply Exists.intro)); exact ⟨⟨i + 1, a + 64, by have := HA.out; omega, by omega, by first | go_num | (push_cast; rfl) | rfl, HO6, HB6⟩, rfl⟩)
              case measure => simp [intOf]; have := HA.out; have := HALL.out; omega
            · have hin : i = nb N := by omega
              obtain rfl : z = a + 64 := by omega
              by_cases g6 : N < a + 64
              · have gG : (N : Int) < (a : Int) + 64 := by omega
                have HDA : Hid (∀ k, k < 64 → at_ ((msg ++ List.replicate j 0).drop a) k = at_ (msg ++ List.replicate j 0) (64 * i + k)) := Lib.hid (fun k hk => by rw [at_drop, ← ha])
                have HDC : Hid (∀ k, k < 64 → wr.cell? ⟨gb, ob + a + k, none⟩ = some (.int .u8 (at_ ((msg ++ List.replicate j 0).drop a) k))) := Lib.hid (fun k hk => by rw [at_drop, Nat.add_assoc]; exact kept_cell hb.out (HBC.out (a + k) (by omega)) HGB.out)
                have HNX : Hid (comprL (stR (hk0 n) msg i) (wordsL ((msg ++ List.replicate j 0).drop a)) (N : Int) (markOf true) = stR (hk0 n) msg (i + 1)) := Lib.hid (by have h := stR_last (hk0 n) msg j ((msg ++ List.replicate j 0).drop a) (by rw [HNN.out, ← hin]; exact HDA.out); rw [HNN.out, ← hin] at h; exact h)
                have hgbw : gb < wr.heap.size := by have := hb.out.size; rw [HSZ.out] at this; have := HGB.out; omega
                have HA := Lib.hid ha
                clear hin hb ho ha hall hlenR k6 k8
                go_wp2_with (fail)
                refine (rcomp_any gh 0 ch gb (ob + a) _ (stR (hk0 n) msg i) ((msg ++ List.replicate j 0).drop a) (N : Int) true wr (stR_len msg (hk0_len n) i) HGH.out (fun k hk => by rw [Nat.zero_add]; exact HHC.out k hk) hgbw HDC.out).mono ?_
                rintro e w6 ⟨⟨v6, rfl, h6⟩, q6⟩
                rw [HNX.out] at h6
                have HO6 := Lib.hid (h6.less HPW.out)
                have HB6 := Lib.hid (HBR.out.trans (q6.mono HSW.out))
                clear h6 q6 HDC HNX HDA
                go_wp2_with (fail)
                clear k1 k2 k3 k4 k5 k7 k9 gG gJ
                go_roundw
                case rel => first | exact ⟨i + 1, a + 64, by have := HA.out; omega, by omega, by first | go_num | (push_cast; rfl) | rfl, HO6, HB6⟩ | ((repeat (apply Exists.intro)); exact ⟨⟨i + 1, a + 64, by have := HA.out; omega, by omega, by first | go_num | (push_cast; rfl) | rfl, HO6, HB6⟩, rfl⟩)
                case measure => simp [intOf]; have := HA.out; have := HALL.out; omega
              · have gG : ¬ (N : Int) < (a : Int) + 64 := by omega
                have gN : N = a + 64 := by unfold nb at hin; omega
                have HDA : Hid (∀ k, k < 64 → at_ ((msg ++ List.replicate j 0).drop a) k = at_ (msg ++ List.replicate j 0) (64 * i + k)) := Lib.hid (fun k hk => by rw [at_drop, ← ha])
                have HDC : Hid (∀ k, k < 64 → wr.cell? ⟨gb, ob + a + k, none⟩ = some (.int .u8 (at_ ((msg ++ List.replicate j 0).drop a) k))) := Lib.hid (fun k hk => by rw [at_drop, Nat.add_assoc]; exact kept_cell hb.out (HBC.out (a + k) (by omega)) HGB.out)
                have HNX : Hid (comprL (stR (hk0 n) msg i) (wordsL ((msg ++ List.replicate j 0).drop a)) ((a : Int) + 64) (markOf true) = stR (hk0 n) msg (i + 1)) := Lib.hid (by have h := stR_last (hk0 n) msg j ((msg ++ List.replicate j 0).drop a) (by rw [HNN.out, ← hin]; exact HDA.out); rw [HNN.out, ← hin] at h; rw [show (N : Int) = (a : Int) + 64 by omega] at h; exact h)
                have hgbw : gb < wr.heap.size := by have := hb.out.size; rw [HSZ.out] at this; have := HGB.out; omega
                have HA := Lib.hid ha
                have HGN := Lib.hid gN
                clear gN hb ho ha hall hlenR k6 k8
                go_wp2_with (fail)
                refine (rcomp_any gh 0 ch gb (ob + a) _ (stR (hk0 n) msg i) ((msg ++ List.replicate j 0).drop a) ((a : Int) + 64) true wr (stR_len msg (hk0_len n) i) HGH.out (fun k hk => by rw [Nat.zero_add]; exact HHC.out k hk) hgbw HDC.out).mono ?_
                rintro e w6 ⟨⟨v6, rfl, h6⟩, q6⟩
                rw [HNX.out] at h6
                have HO6 := Lib.hid (h6.less HPW.out)
                have HB6 := Lib.hid (HBR.out.trans (q6.mono HSW.out))
                clear h6 q6 HDC HNX HDA
                go_wp2_with (fail)
                clear k1 k2 k3 k4 k5 k7 k9 gG gJ
                go_roundw
                case rel => first | exact ⟨i + 1, a + 64, by have := HA.out; omega, by omega, by first | go_num | (push_cast; rfl) | rfl, HO6, HB6⟩ | ((repeat (apply Exists.intro)); exact ⟨⟨i + 1, a + 64, by have := HA.out; omega, by omega, by first | go_num | (push_cast; rfl) | rfl, HO6, HB6⟩, rfl⟩)
                case measure => simp [intOf]; have := HA.out; have := HALL.out; omega
          · have hin : i = nb N + 1 := by omega
            have haz : a = z := by have := HALL.out; omega
            have gJ : ¬ (a : Int) < (z : Int) := by omega
            subst hin
            rw [← HNN.out, stR_all] at ho HHC
            clear ha haz hlenR
            have HBW : Hid (Below p w wr) := Lib.hid (HBL.out.trans (hb.out.mono HPZ.out))
            have HGW := HGH
            have LR : Hid ((hashS (hk0 n) msg).length = 8) := Lib.hid (comprL_len _ _ _ _)
            generalize hashS (hk0 n) msg = R at *
            obtain ⟨s2, hs2⟩ : ∃ z, wr.heap.size = z := ⟨_, rfl⟩
            have HS2 := Lib.hid hs2
            have HPS : Hid (p ≤ s2) := Lib.hid (hs2 ▸ HPW.out)
            have HGS : Hid (gh < s2) := Lib.hid (hs2 ▸ HGW.out)
            clear ho hb hs2 HBR HSW HPW HGH HGW
            generalize wr = W5 at *
            have HOA : Hid (Own W5 s2 (.slice none 0 0) (bytesN R 0)) := Lib.hid (Own.nil_ _ _)
            have HBA : Hid (Below s2 W5 W5) := Lib.hid (Below.refl _ _)
            go_wp2_with (fail)
            go_loopw [10, 11] (fun v i wx => ∃ k : Nat, k ≤ 8 ∧ i = .int .i64 k ∧ Hid (Own wx s2 v (bytesN R k)) ∧ Hid (Below s2 W5 wx)) (fun _ i _ => 8 - (intOf i).toNat)
            case atStart => exact ⟨0, Nat.zero_le _, rfl, HOA, HBA⟩
            case round =>
              obtain ⟨k, hk, rfl, ho, hbl⟩ := hrel
              clear HOA HBA
              obtain ⟨A5, c5, rfl, -⟩ := ho.out.part
              rw [bytesN_len] at ho ⊢
              by_cases g6 : k < 8
              · have gI8 : (k : Int) < 8 := by omega
                have cc : wr.cell? ⟨gh, k, none⟩ = some (.int .u32 (at_ R k)) := kept_cell hbl.out (HHC.out k g6) HGS.out
                have HCC : Hid (∀ w', Below s2 W5 w' → w'.cell? ⟨gh, k, none⟩ = some (.int .u32 (at_ R k))) := Lib.hid fun w' h => kept_cell h (HHC.out k g6) HGS.out
                have hsz : s2 ≤ wr.heap.size := by have := hbl.out.size; rw [HS2.out] at this; exact this
                have b0 : at_ R k % 256 = byteAt R (4 * k) := by unfold byteAt; rw [show (4 * k) / 4 = k by omega, show (4 * k) % 4 = 0 by omega]; simp
                have b1 : at_ R k / 256 % 256 = byteAt R (4 * k + 1) := by unfold byteAt; rw [show (4 * k + 1) / 4 = k by omega, show (4 * k + 1) % 4 = 1 by omega]; rfl
                have b2 : at_ R k / 65536 % 256 = byteAt R (4 * k + 2) := by unfold byteAt; rw [show (4 * k + 2) / 4 = k by omega, show (4 * k + 2) % 4 = 2 by omega]; rfl
                have b3 : at_ R k / 16777216 % 256 = byteAt R (4 * k + 3) := by unfold byteAt; rw [show (4 * k + 3) / 4 = k by omega, show (4 * k + 3) % 4 = 3 by omega]; rfl
                have HB4 : Hid (at_ R k % 256 = byteAt R (4 * k) ∧ at_ R k / 256 % 256 = byteAt R (4 * k + 1) ∧ at_ R k / 65536 % 256 = byteAt R (4 * k + 2) ∧ at_ R k / 16777216 % 256 = byteAt R (4 * k + 3)) := Lib.hid ⟨b0, b1, b2, b3⟩
                clear b0 b1 b2 b3
                go_wp2_with (fail)
                go_region_held3 (fun w' => w'.cell? ⟨gh, k, none⟩ = some (.int .u32 (at_ R k))) (first | exact cc | exact HCC.out _ hbl.out.drew | exact HCC.out _ ((hbl.out.alloc hsz _).drew) | exact HCC.out _ h2)
                  (first | (refine stepB4 rfl _ _ _ rfl Tryd.underlying22 rfl (by first | exact (ho.out.keep (fun g hg => Below.heap_alloc wr _ g hg))) (W := W5) (by first | exact (hbl.out.alloc hsz _).drew) (by simp; omega) wr.heap.size [byteAt R (4 * k), byteAt R (4 * k + 1), byteAt R (4 * k + 2), byteAt R (4 * k + 3)] 4 rfl rfl (four_cells wr HB4.out.1 HB4.out.2.1 HB4.out.2.2.1 HB4.out.2.2.2) (by rw [bytesN_len]; omega) ?_; intro v9 w9 h1 h2))
                have HO9 := Lib.hid h1
                have HB9 := Lib.hid h2
                rw [bytesN_succ] at HO9
                clear h1 h2 ho hbl cc HCC HB4 hsz
                go_wp2_with (fail)
                go_roundw
                case rel => exact ⟨k + 1, by omega, by go_num, HO9, HB9⟩
                case measure => simp [intOf]; omega
              · obtain rfl : k = 8 := by omega
                rw [show ((8 : Nat) : Int) = (8 : Int) from rfl]
                have HOE := ho.out.less HPS.out
                rw [show bytesN R 8 = hashB kd bd by rw [HJ.out]; rfl] at HOE
                have HBE := HBW.out.trans (hbl.out.mono HPS.out)
                replace HOE := Lib.hid HOE
                replace HBE := Lib.hid HBE
                clear ho hbl
                go_wp2_with (fail)
                go_ret
                exact ⟨⟨_, rfl, HOE.out⟩, HBE.out⟩
      · have HMO : Hid (z + 1 ≤ 64 * (nb N + 1)) := Lib.hid (by have := pad_more hj (.inr (by rw [hz]; exact g2)); omega)
        have gE : ((z : Int) == 0) = false := by rw [beq_eq_false_iff_ne]; omega
        have gF : ((z : Int) % 64 != 0) = true := by rw [bne_iff_ne]; omega
        have HOA := Lib.hid (ho.out.keep (fun g hg => Below.heap_alloc wr (.cells #[.int .u8 0] 5) g hg))
        have HBA := Lib.hid (hbl.out.alloc hsz (.cells #[.int .u8 0] 5))
        have HWA := Lib.hid (hw.out.keep (fun g hg => Below.heap_alloc wr (.cells #[.int .u8 0] 5) g hg))
        have HZ := Lib.hid hz
        have HL1 := Lib.hid L1
        clear ho hbl hz L1 hw
        go_wp2_with (at_builtin; refine appB1 rfl _ _ _ rfl Tryd.underlying22 rfl HOA.out HBA.out ?c1 wr.heap.size 0 rfl ?c2 ?c3 ?_)
        case c1 => simp; omega
        case c2 => rw [World.cell?_alloc_at _ _ _ _ rfl]; rfl
        case c3 => rw [HL1.out]; have := HZB.out; have := HNB.out; omega
        intro x' w5 hown1 hbl1 hkt1
        have HO5 : Hid (Own w5 p x' (msg ++ List.replicate (j + 1) 0)) := Lib.hid (by rw [List.replicate_succ']; first | exact hown1 | (rw [← List.append_assoc]; exact hown1))
        have HB5 := Lib.hid hbl1
        have HW5 := Lib.hid (HWA.out.keepsT hkt1)
        obtain ⟨A3, c3, e2, -⟩ := hown1.part
        have e3 : lenV x' = z + 1 := by rw [e2]; simp only [lenV]; have := HL1.out; simp only [List.length_append, List.length_cons, List.length_nil] at this ⊢; omega
        clear hown1 hbl1 hkt1 HOA HBA HWA hsz e2
        go_wp2_with (fail)
        go_roundw
        case rel => exact ⟨j + 1, by have := HMO.out; have := HZ.out; omega, HO5, HB5, HW5⟩
        case measure => rw [e3]; show 64 * (nb N + 1) - (z + 1) < 64 * (nb N + 1) - z; have := HMO.out; omega
end Go.Proofs.YtdjfklllfbenjaaDoor
