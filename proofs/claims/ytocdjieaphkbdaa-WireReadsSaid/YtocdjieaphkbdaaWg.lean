/- Package wire: a writer's methods: Ints, End. -/
import Derived.Test.YtocdjieaphkbdaaWf
namespace Go.Proofs.Ytocdjieaphkbdaa
open Go.RowKit

theorem intsL_take {l : List Int} {k : Nat} (hk : k < l.length) : intsL (l.take (k + 1)) = intsL (l.take k) ++ grp (fold (at_ l k)) := by
  unfold intsL
  rw [List.take_add_one, List.getElem?_eq_getElem hk, List.flatMap_append]
  simp [at_, hk]
/-- int64s. -/
def I64s (l : List Int) : Prop := ∀ x ∈ l, -9223372036854775808 ≤ x ∧ x ≤ 9223372036854775807
theorem I64s.at {l : List Int} (h : I64s l) {k : Nat} (hk : k < l.length) : -9223372036854775808 ≤ at_ l k ∧ at_ l k ≤ 9223372036854775807 := by
  have : at_ l k = l[k] := by simp [at_, hk]
  rw [this]
  exact h _ (List.getElem_mem hk)
theorem intsL_len : ∀ (l : List Int), I64s l → l.length ≤ (intsL l).length ∧ (intsL l).length ≤ 10 * l.length
  | [], _ => by simp [intsL]
  | x :: l, h => by
    have h1 := intsL_len l fun y hy => h y (List.mem_cons_of_mem _ hy)
    obtain ⟨h2, h3⟩ := h x (List.mem_cons_self ..)
    have h4 := grp_len10 (fold_lt h2 h3)
    have h5 := grp_pos (fold x)
    have e : intsL (x :: l) = grp (fold x) ++ intsL l := rfl
    rw [e, List.length_append, List.length_cons]
    omega
theorem Rw.at {w : World} {P : Nat → Prop} {K : IntKind} {A : Option Addr} {n c : Nat} {ds : List Int} (h : Rw w P K (.slice A n c) ds) (h0 : 0 < ds.length) :
    ∃ b o, A = some ⟨b, o, none⟩ ∧ P b ∧ b < w.heap.size ∧ ∀ k, k < ds.length → w.cell? ⟨b, o + k, none⟩ = some (.int K (at_ ds k)) := by
  obtain ⟨A', c', e, -, -, h1⟩ := h
  injection e with e1 _ e3
  subst e1 e3
  exact h1 h0
theorem meas {k n : Nat} (h : k < n) : n - ((k : Int) + 1).toNat < n - (k : Int).toNat := by omega
theorem wrap_succ {k n : Nat} (h : k < n) (h2 : n ≤ 65536) : wrap64 ((k : Int) + 1) = (k : Int) + 1 := by unfold wrap64; omega
set_option maxRecDepth 100000 in
set_option maxHeartbeats 2000000 in
theorem ints_any {w : World} {P : Nat → Prop} {p n c : Nat} {A : Option Addr} {v : Value} {x : Wst} {l : List Int} (h : WrAt w p v x) (hb : Rw w P .i64 (.slice A n c) l) (hn : l.length = n) (hl : I64s l) (hP : ∀ i, i < w.heap.size → P i → i ≠ p ∧ ¬ Of v i) :
    Calls Try.prog 44 #[.pointer (some ⟨p, 0, none⟩), .slice A n c] w fun r w' => r = .returned (.tuple #[]) ∧ Wrote w w' p v (wInts x l) := by
  obtain ⟨e, y⟩ := x
  by_cases he : e = 0
  · subst he
    have HR := Lib.hid (ready_0 h)
    by_cases g : 65536 < n
    · have HF := Lib.hid (room_1 (n := n) h.zero g)
      have HW := Lib.hid (h.zero.bad (e := 7) (by decide) y)
      have HE : Hid (wInts ⟨0, y⟩ l = ⟨7, y⟩) := Lib.hid (by unfold wInts; rw [wr_great]; rw [List.length_append, List.length_append]; have := (intsL_len l hl).1; omega)
      clear h hb hP hn hl
      go_enter Try.func44, Try.ntmps44
      go_wp2_with (fail)
      refine HR.out.mono ?_
      rintro e w1 ⟨rfl, rfl⟩
      go_wp2_with (fail)
      refine HF.out.mono ?_
      rintro e w2 ⟨rfl, rfl⟩
      go_wp2_with (fail)
      first | go_end0 | refine bodyPost_ret (results_none rfl _ _ _) rfl ?_
      rw [HE.out]
      exact ⟨rfl, v, HW.out, (Ch.put _ _ _ _).mono fun i _ e => .inl e, Mv.refl _ _⟩
    · have HF := Lib.hid (room_0 (n := n) h.zero (by omega))
      have hw : IntKind.u64.wrap (n : Int) = n := by rw [IntKind.wrap_u64]; omega
      obtain ⟨ho, hy⟩ := h.2 rfl
      have c1 := h.c1
      have HG := Lib.hid (group_any (n := n) ho h.lt (by omega) (Nat.lt_of_le_of_lt hy (by decide)))
      have HL : Hid ((y ++ grp n).length < 1000000 ∧ (intsL l).length ≤ 1000000 ∧ ∀ k, (intsL (l.take k)).length ≤ 1000000) := Lib.hid (by
        have h1 := grp_len10 (n := n) (by omega)
        have h2 := intsL_len l hl
        have h3 : ∀ k, (intsL (l.take k)).length ≤ 1000000 := fun k => by
          have := intsL_len (l.take k) fun z hz => hl z (List.mem_of_mem_take hz)
          rw [List.length_take] at this
          omega
        rw [List.length_append]
        simp only at hy
        exact ⟨by omega, by omega, h3⟩)
      have HX := Lib.hid h.zero
      have HO := Lib.hid ho
      have HB := Lib.hid hb
      have HP := Lib.hid hP
      have HN := Lib.hid hn
      have HI := Lib.hid hl
      have HN6 : Hid (n ≤ 65536) := Lib.hid (by omega)
      clear h ho hy hb hP hn g hl
      go_enter Try.func44, Try.ntmps44
      go_wp2_with (fail)
      refine HR.out.mono ?_
      rintro e w1 ⟨rfl, hw1⟩
      rw [hw1]
      clear hw1
      go_wp2_with (fail)
      refine HF.out.mono ?_
      rintro e w2 ⟨rfl, hw2⟩
      rw [hw2]
      clear hw2
      go_wp2_with (fail)
      refine HG.out.mono ?_
      rintro e w3 ⟨v3, rfl, o3, k3, m3⟩
      have O3 : Hid (Ow 5 .u8 w3 (p + 1) v3 ((y ++ grp n) ++ intsL (l.take 0))) := Lib.hid (by rw [List.take_zero]; simpa [intsL] using o3)
      have K3 := Lib.hid k3
      have M3 := Lib.hid m3
      clear o3 k3 m3 HG c1
      go_wp2_with (fail)
      go_loopw [4, 27] (fun u i wx => ∃ k : Nat, i = .int .i64 k ∧ k ≤ n ∧ Hid (Ow 5 .u8 wx (p + 1) u ((y ++ grp n) ++ intsL (l.take k))) ∧ Hid (Ch (Of v) w wx) ∧ Hid (Mv w v u)) (fun _ i _ => n - (intOf i).toNat)
      case atStart => exact ⟨0, rfl, Nat.zero_le _, O3, K3, M3⟩
      case round =>
        obtain ⟨k, rfl, hk, ho, hc, hm⟩ := hrel
        clear O3 K3 M3
        by_cases g : k < n
        · have gI : (k : Int) < n := by omega
          have gN : n ≤ 65536 := HN6.out
          obtain ⟨b, o, rfl, hPb, hbl, hcl⟩ := HB.out.at (by rw [HN.out]; omega)
          have c2 := hc.out.cell (hcl k (by rw [HN.out]; exact g)) (HP.out b hbl hPb).2
          obtain ⟨i1, i2⟩ := HI.out.at (k := k) (by rw [HN.out]; exact g)
          have HT := Lib.hid (intsL_take (l := l) (k := k) (by rw [HN.out]; exact g))
          obtain ⟨z, hz⟩ : ∃ z, at_ l k = z := ⟨_, rfl⟩
          rw [hz] at c2 i1 i2 HT
          have HFo := Lib.hid (folded_any (w := wr) i1 i2)
          have HGr := Lib.hid (group_any (n := fold z) ho.out (Nat.le_trans HX.out.lt hc.out.size) (fold_lt i1 i2) (by have := HL.out.1; have := HL.out.2.2 k; rw [List.length_append]; omega))
          clear hcl hz ho
          go_wp2_with (fail)
          refine HFo.out.mono ?_
          rintro e w4 ⟨rfl, hw4⟩
          rw [hw4]
          clear hw4
          go_wp2_with (fail)
          refine HGr.out.mono ?_
          rintro e w5 ⟨v5, rfl, o5, k5, m5⟩
          have O5 : Hid (Ow 5 .u8 w5 (p + 1) v5 ((y ++ grp n) ++ intsL (l.take (k + 1)))) := Lib.hid (by rw [HT.out, ← List.append_assoc]; simpa only [List.append_assoc] using o5)
          have K5 : Hid (Ch (Of v) w w5) := Lib.hid (hc.out.trans k5 fun i hi h' => hm.out.of hi h')
          have M5 : Hid (Mv w v v5) := Lib.hid (hm.out.trans m5 hc.out.size)
          clear o5 k5 m5 hc hm HFo HGr HT c2 i1 i2
          go_wp2_with (fail)
          go_roundw
          case rel => exact ⟨k + 1, by go_num, by omega, O5, K5, M5⟩
          case measure => simp [intOf]; omega
        · obtain rfl : k = n := by omega
          have HK := Lib.hid (keep_any y (HX.out.ch hc.out (fun e => by have := (HO.out.lt e).1; omega)) ho.out (by have := HL.out.1; have := HL.out.2.2 k; rw [List.length_append]; omega))
          have K4 := hc
          have M4 := hm
          clear ho hc hm
          go_wp2_with (fail)
          refine HK.out.mono ?_
          rintro e w5 ⟨rfl, v5, h5, k5, e5⟩
          have h5' : WrAt w5 p v5 (if 65536 < (y ++ (grp k ++ intsL l)).length then ⟨7, y⟩ else ⟨0, y ++ (grp k ++ intsL l)⟩) := by
            have e1 : l.take k = l := List.take_of_length_le (by rw [HN.out]; exact Nat.le_refl _)
            rw [e1] at h5
            simpa only [List.append_assoc] using h5
          have HF := Lib.hid (wrote_keep K4.out.size (K4.out.mono fun i _ e => Or.inr e) M4.out h5' k5 e5)
          clear h5 k5 e5
          go_wp2_with (fail)
          first | go_end0 | refine bodyPost_ret (results_none rfl _ _ _) rfl ?_
          refine ⟨rfl, ?_⟩
          unfold wInts
          rw [HN.out]
          exact HF.out
  · have HR := Lib.hid (ready_1 h he)
    have HE : Hid (wInts ⟨e, y⟩ l = ⟨e, y⟩) := Lib.hid (by unfold wInts; rw [wr_bad he])
    have HW := Lib.hid (wrote_refl h)
    clear h he hb hP
    go_enter Try.func44, Try.ntmps44
    go_wp2_with (fail)
    refine HR.out.mono ?_
    rintro e w1 ⟨rfl, rfl⟩
    go_wp2_with (fail)
    first | go_end0 | refine bodyPost_ret (results_none rfl _ _ _) rfl ?_
    rw [HE.out]
    exact ⟨rfl, HW.out⟩
theorem Rw.shape {w : World} {P : Nat → Prop} {K : IntKind} {v : Value} {ds : List Int} (h : Rw w P K v ds) : ∃ A c, v = .slice A ds.length c ∧ (A = none → c = 0) := by
  obtain ⟨A, c, e, -, h1, -⟩ := h
  exact ⟨A, c, e, h1⟩
theorem eq_nil (w : World) : (binOp .eql 28 (.slice none 0 0) (.slice none 0 0)).run Try.prog w = .ok (.bool true) w := by
  first | rfl | (simp [binOp, Op.equal, go_sem]; done) | (simp [binOp, Op.equal, Op.equalIn, go_sem]; done)
theorem eq_some (ad : Addr) (k m : Nat) (w : World) : (binOp .eql 28 (.slice (some ad) k m) (.slice none 0 0)).run Try.prog w = .ok (.bool false) w := by
  first | rfl | (simp [binOp, Op.equal, go_sem]; done) | (simp [binOp, Op.equal, Op.equalIn, go_sem]; done)
set_option maxRecDepth 100000 in
theorem clone_any {w : World} {P : Nat → Prop} {v : Value} {ds : List Int} (h : Rw w P .u8 v ds) (hl : ds.length < 100000000) :
    Calls Try.prog 47 #[v] w fun r w' => ∃ v', r = .returned v' ∧ Ow 5 .u8 w' w.heap.size v' ds ∧ Ch No w w' := by
  obtain ⟨A, c, rfl, hA⟩ := h.shape
  cases A with
  | none =>
    have h0 : ds = [] := by
      rcases Nat.eq_zero_or_pos ds.length with h0 | h0
      · exact List.eq_nil_of_length_eq_zero h0
      · obtain ⟨_, _, e, _⟩ := h.at h0; cases e
    subst h0
    obtain rfl := hA rfl
    clear h hA hl
    have hq : ∀ w : World, (binOp .eql 28 (.slice none 0 0) (.slice none 0 0)).run Try.prog w = .ok (.bool true) w := eq_nil
    go_enter Try.func47, Try.ntmps47
    go_wp2_with (fail)
    go_ret
    exact ⟨_, rfl, Ow.nil_, Ch.refl _ _⟩
  | some ad =>
    have HE : Hid (Ow 5 .u8 (w.alloc (.cells #[] 5)) w.heap.size (.slice (some ⟨w.heap.size, 0, none⟩) 0 0) []) := Lib.hid (Ow.new (cs := []) rfl (by decide) (Nat.le_refl _))
    have HR : Hid (Rw (w.alloc (.cells #[] 5)) P .u8 (.slice (some ad) ds.length c) ds) := Lib.hid (h.ch (Ch.new w _) fun _ _ _ h' => h')
    have HL := Lib.hid hl
    have hq : ∀ (k m : Nat) (w : World), (binOp .eql 28 (.slice (some ad) k m) (.slice none 0 0)).run Try.prog w = .ok (.bool false) w := fun k m => eq_some ad k m
    clear h hA hl
    go_enter Try.func47, Try.ntmps47
    go_wp2_with (at_builtin; refine app rfl _ _ _ rfl Try.underlying28 infoU8 (by decide) rfl rfl HE.out (by simp) P ds HR.out (by have := HL.out; simp only [List.length_nil]; omega) ?_)
    intro v4 w4 o4 k4 m4
    have O4 : Hid (Ow 5 .u8 w4 w.heap.size v4 ds) := Lib.hid o4
    have K4 : Hid (Ch No w w4) := Lib.hid ((Ch.new w _).trans k4 fun i hi h' => by
      have : w.heap.size = i := by simpa [Of, Value.ownBlock] using h'
      omega)
    clear o4 k4 m4
    go_wp2_with (fail)
    go_ret
    exact ⟨_, rfl, O4.out, K4.out⟩
/-- What End gives. -/
def outW (x : Wst) : List Int := if x.er = 0 then x.out else []
theorem outW_0 (y : List Int) : outW ⟨0, y⟩ = y := by unfold outW; rw [if_pos rfl]
theorem outW_1 {x : Wst} (h : ¬ x.er = 0) : outW x = [] := by unfold outW; rw [if_neg h]
set_option maxRecDepth 100000 in
theorem end_any {w : World} {p : Nat} {v : Value} {x : Wst} (h : WrAt w p v x) :
    Calls Try.prog 14 #[.pointer (some ⟨p, 0, none⟩)] w fun r w' => ∃ v', r = .returned (.tuple #[v', .int .i64 x.er]) ∧ Ow 5 .u8 w' w.heap.size v' (outW x) ∧ Ch No w w' := by
  obtain ⟨e, y⟩ := x
  by_cases he : e = 0
  · subst he
    obtain ⟨ho, hy⟩ := h.2 rfl
    have HF := Lib.hid (failed_0 h.c0)
    have HC := Lib.hid (clone_any ho.rw_ (Nat.lt_of_le_of_lt hy (by decide)))
    have c1 := h.c1
    clear h ho hy
    go_enter Try.func14, Try.ntmps14
    go_wp2_with (fail)
    refine HF.out.mono ?_
    rintro e w1 ⟨rfl, hw1⟩
    rw [hw1]
    clear hw1
    go_wp2_with (fail)
    refine HC.out.mono ?_
    rintro e w2 ⟨v2, rfl, o2, k2⟩
    have O2 := Lib.hid o2
    have K2 := Lib.hid k2
    clear o2 k2 c1
    go_wp2_with (fail)
    exact bodyPost_ret (v := .tuple #[v2, .int .i64 0]) (by simp [results, Try.results14, go_sem]) rfl ⟨v2, rfl, by rw [outW_0]; exact O2.out, K2.out⟩
  · have HF := Lib.hid (failed_1 h.c0 he)
    have c0 := h.c0
    have HE := Lib.hid he
    simp only at c0
    clear h he
    go_enter Try.func14, Try.ntmps14
    go_wp2_with (fail)
    refine HF.out.mono ?_
    rintro e' w1 ⟨rfl, hw1⟩
    rw [hw1]
    clear hw1
    go_wp2_with (fail)
    go_region
    all_goals
      go_wp2_with (fail)
      refine bodyPost_ret (v := .tuple #[.slice none 0 0, .int .i64 e]) (by simp [results, Try.results14, go_sem]) rfl ⟨_, rfl, ?_, (Ch.refl _ _).drew⟩
      rw [outW_1 HE.out]
      exact Ow.nil_
end Go.Proofs.Ytocdjieaphkbdaa
