/- The law WireFull. -/
import Derived.Test.YtocdjieaphkbdaaWr
import Derived.OwnWalk
namespace Go.Proofs.Ytocdjieaphkbdaa
open Go.RowKit

/-- make([]byte, n). -/
theorem mkU8 {ops : Array Oper} {rest : List Oper} {o : Oper} {a : Act} {Q : Exit → Act → World → Prop} {w : World}
    (hgd : o.guard = none) (l c : Operand) (T : TypeId) (ho : o.op = Op.makeSlice T l c) (hT : Try.prog.underlying T = some (.slice 5)) (n : Nat) (L C : Int)
    (hl : a.eval l = .int .i64 L) (hc : a.eval c = .int .i64 C) (hL : L = (n : Int)) (hC : C = (n : Int)) (hn : n < 1000000000000)
    (h : ∀ w', Rw w' (fun i => i = w.heap.size) .u8 (.slice (some ⟨w.heap.size, 0, none⟩) n n) (List.replicate n 0) → Ch No w w' → w.heap.size < w'.heap.size → wpList Try.prog ops Q rest (a.put o.dst (.slice (some ⟨w.heap.size, 0, none⟩) n n)) w') : wpList Try.prog ops Q (o :: rest) a w := by
  obtain ⟨i0, hi, hz0, hz1, hz2⟩ := info_parts infoU8
  refine wpList_make_full w hgd l c T ho w.heap.size 5 i0 (.int .u8 0) 1 hT hi hz0 hz1 .i64 .i64 L C n hl hc hL hC (by rw [hz2]; omega) (by unfold maxLen; omega) (Nat.le_refl _) fun w' h1 h2 => ?_
  have e : (madeCells (Value.cells (.int .u8 0)) (n * 1)).toList = (List.replicate n (0 : Int)).map (Value.int .u8) := by
    rw [Nat.mul_one]
    exact (toList_madeCells_one (.int .u8 0) n).trans (by simp)
  rw [e] at h1
  have ho : Ow 5 .u8 w' w.heap.size (.slice (some ⟨w.heap.size, 0, none⟩) n n) (List.replicate n 0) := by
    unfold Ow
    rw [List.length_replicate]
    exact h1
  refine h w' (ho.rw_.mono fun i _ h => by simpa [Of, Value.ownBlock, eq_comm] using h) ((Ch.grown h2).mono fun i _ h => by cases h) (World.ownsRow.lt h1 _ rfl).2
theorem grp_3 {n : Nat} (h1 : 16384 ≤ n) (h2 : n < 2097152) : (grp n).length = 3 := by
  rw [grp_ge (by omega), grp_ge (by omega), grp_lt (by omega)]
  rfl
theorem wr_ok {y bs : List Int} (h : ¬ 65536 < y.length + bs.length) : wr ⟨0, y⟩ bs = ⟨0, y ++ bs⟩ := by unfold wr; rw [if_pos rfl, if_neg (by rw [List.length_append]; exact h)]
theorem wr_no {y bs : List Int} (h : 65536 < y.length + bs.length) : wr ⟨0, y⟩ bs = ⟨7, y⟩ := by unfold wr; rw [if_pos rfl, if_pos (by rw [List.length_append]; exact h)]
theorem wr_7 {y bs : List Int} : wr ⟨7, y⟩ bs = ⟨7, y⟩ := by unfold wr; rw [if_neg (by show ¬ (7 : Int) = 0; decide)]
/-- What comes of the three encodings. -/
def Full (n : Nat) (x1 xf x3 : Wst) : Prop :=
  (n ≤ 65531 ∧ x1.er = 0 ∧ (outW x1).length = n + 3 ∧ xf.er = 0 ∧ (outW xf).length = n + 4 ∧ x3.er = 0 ∧ (outW x3).length = n + 5) ∨
  (n = 65532 ∧ x1.er = 0 ∧ (outW x1).length = n + 3 ∧ xf.er = 0 ∧ (outW xf).length = n + 4 ∧ x3.er = 7 ∧ (outW x3).length = 0) ∨
  (n = 65533 ∧ x1.er = 0 ∧ (outW x1).length = n + 3 ∧ xf.er = 7 ∧ (outW xf).length = 0 ∧ x3.er = 7 ∧ (outW x3).length = 0) ∨
  (65534 ≤ n ∧ x1.er = 7 ∧ (outW x1).length = 0 ∧ xf.er = 7 ∧ (outW xf).length = 0 ∧ x3.er = 7 ∧ (outW x3).length = 0)
theorem out7 (y : List Int) : (outW ⟨7, y⟩).length = 0 := by rw [outW_1 (by show ¬ (7 : Int) = 0; decide)]; rfl
theorem full_of {n : Nat} (h1 : 65500 ≤ n) (h2 : n ≤ 65600) {z : List Int} (hz : z.length = n) : Full n (wBytes ⟨0, []⟩ z) (frameW 1 z) (wBool (wBool (wBytes ⟨0, []⟩ z) true) false) := by
  have g3 := grp_3 (n := n) (by omega) (by omega)
  have hu : wUint ⟨0, []⟩ 1 = ⟨0, [1]⟩ := by
    unfold wUint
    rw [if_neg (by omega), show grp (Int.toNat 1) = [1] from grp_lt (by decide)]
    rfl
  have gl : (grp z.length ++ z).length = n + 3 := by rw [List.length_append, hz, g3]; omega
  unfold Full frameW wBool
  rw [hu]
  unfold wBytes
  by_cases a1 : n ≤ 65531
  · left
    have e1 : wr ⟨0, []⟩ (grp z.length ++ z) = ⟨0, [] ++ (grp z.length ++ z)⟩ := wr_ok (by rw [gl]; simp; omega)
    have ef : wr ⟨0, [1]⟩ (grp z.length ++ z) = ⟨0, [1] ++ (grp z.length ++ z)⟩ := wr_ok (by rw [gl]; simp; omega)
    rw [e1, ef, wr_ok (by rw [List.length_append, gl]; simp; omega), wr_ok (by rw [List.length_append, List.length_append, gl]; simp; omega)]
    refine ⟨a1, rfl, ?_, rfl, ?_, rfl, ?_⟩ <;> rw [outW_0] <;> simp only [List.length_append, List.length_nil, List.length_singleton] at * <;> omega
  right
  by_cases a2 : n = 65532
  · left
    have e1 : wr ⟨0, []⟩ (grp z.length ++ z) = ⟨0, [] ++ (grp z.length ++ z)⟩ := wr_ok (by rw [gl]; simp; omega)
    have ef : wr ⟨0, [1]⟩ (grp z.length ++ z) = ⟨0, [1] ++ (grp z.length ++ z)⟩ := wr_ok (by rw [gl]; simp; omega)
    rw [e1, ef, wr_ok (by rw [List.length_append, gl]; simp; omega), wr_no (by rw [List.length_append, List.length_append, gl]; simp; omega)]
    refine ⟨a2, rfl, ?_, rfl, ?_, rfl, out7 _⟩ <;> rw [outW_0] <;> simp only [List.length_append, List.length_nil, List.length_singleton] at * <;> omega
  right
  by_cases a3 : n = 65533
  · left
    have e1 : wr ⟨0, []⟩ (grp z.length ++ z) = ⟨0, [] ++ (grp z.length ++ z)⟩ := wr_ok (by rw [gl]; simp; omega)
    have ef : wr ⟨0, [1]⟩ (grp z.length ++ z) = ⟨7, [1]⟩ := wr_no (by rw [gl]; simp; omega)
    rw [e1, ef, wr_no (by rw [List.length_append, gl]; simp; omega), wr_7]
    refine ⟨a3, rfl, ?_, rfl, out7 _, rfl, out7 _⟩
    rw [outW_0]
    simp only [List.length_append, List.length_nil] at *
    omega
  right
  have e1 : wr ⟨0, []⟩ (grp z.length ++ z) = ⟨7, []⟩ := wr_no (by rw [gl]; simp; omega)
  have ef : wr ⟨0, [1]⟩ (grp z.length ++ z) = ⟨7, [1]⟩ := wr_no (by rw [gl]; simp; omega)
  rw [e1, ef, wr_7, wr_7]
  exact ⟨by omega, rfl, out7 _, rfl, out7 _, rfl, out7 _⟩
theorem Mv.ge {w : World} {v v' : Value} {p : Nat} (m : Mv w v v') (hV : ∀ b, v.ownBlock = some b → p ≤ b) (hs : p ≤ w.heap.size) : ∀ b, v'.ownBlock = some b → p ≤ b := fun b e => by
  rcases m with m | ⟨g, m, h⟩
  · rw [m] at e; exact hV b e
  · rw [m] at e; injection e with e; omega
theorem over_ {w0 w1 w2 : World} {p : Nat} {v : Value} (k : Ch (At p v) w1 w2) (hV : ∀ b, v.ownBlock = some b → p ≤ b) (k0 : Ch No w0 w1) (hp : w0.heap.size ≤ p) : Ch No w0 w2 :=
  k0.trans k fun i hi e => by
    rcases e with e | e
    · omega
    · have := hV _ e; omega
theorem Ow.len {T : TypeId} {K : IntKind} {w : World} {B l : Nat} {v : Value} {ds : List Int} (h : Ow T K w B v ds) (hl : ds.length = l) : ∃ A c, v = .slice A l c := by
  subst hl
  exact h.shape
set_option maxRecDepth 100000 in
set_option maxHeartbeats 8000000 in
theorem full_any {n : Int} (w : World) (h1 : -9223372036854775808 ≤ n) (h2 : n ≤ 9223372036854775807) : Calls Try.prog 9 #[.int .i64 n] w fun e w' => e = .returned (.bool true) ∧ Ch No w w' := by
  have HK := Lib.hid (known_any w)
  by_cases ga : n < 65500
  · go_enter Try.func9, Try.ntmps9
    go_wp2_with (fail)
    refine HK.out.mono ?_
    rintro e w1 ⟨rfl, k1⟩
    go_wp2_with (fail)
    go_ret
    exact ⟨rfl, k1⟩
  by_cases gb : n > 65600
  · go_enter Try.func9, Try.ntmps9
    go_wp2_with (fail)
    refine HK.out.mono ?_
    rintro e w1 ⟨rfl, k1⟩
    go_wp2_with (fail)
    go_ret
    exact ⟨rfl, k1⟩
  obtain ⟨m, rfl⟩ := Int.eq_ofNat_of_zero_le (by omega : 0 ≤ n)
  clear h1 h2 HK
  have HF := Lib.hid (full_of (n := m) (by omega) (by omega) (z := List.replicate m 0) (List.length_replicate ..))
  have HM := Lib.hid (show 65500 ≤ m ∧ m ≤ 65600 by omega)
  obtain ⟨p, hp⟩ : ∃ p, w.heap.size = p := ⟨_, rfl⟩
  have HP := Lib.hid hp
  have HW : Hid (WrAt (w.alloc (.cells #[.int .i64 0, .slice none 0 0] 30)) p (.slice none 0 0) ⟨0, []⟩) := Lib.hid (by rw [← hp]; exact WrAt.new w)
  have K0 := Lib.hid (Ch.new w (.cells #[.int .i64 0, .slice none 0 0] 30))
  obtain ⟨z, hz⟩ : ∃ z, List.replicate m (0 : Int) = z := ⟨_, rfl⟩
  have HZ := Lib.hid hz
  rw [hz] at HF
  have HZL : Hid (z.length = m) := Lib.hid (by rw [← hz, List.length_replicate])
  clear hz
  go_enter Try.func9, Try.ntmps9
  go_wp2_with (at_make; refine mkU8 rfl _ _ _ rfl Try.underlying28 m _ _ rfl rfl rfl rfl (by omega) ?_; intro w1 r1 k1 s1)
  rw [show (w.alloc (.cells #[.int .i64 0, .slice none 0 0] 30)).heap.size = p + 1 by simp [hp], HZ.out] at r1
  have K1 := Lib.hid (K0.out.then k1)
  have HB := Lib.hid (bytes_any (HW.out.no k1) r1 HZL.out fun i _ e => ⟨by omega, fun e' => by cases e'⟩)
  have S1 : Hid (p + 1 ≤ w1.heap.size) := Lib.hid (by simp [hp] at s1; omega)
  clear r1 k1 s1 K0 HW
  go_wp2_with (fail)
  refine HB.out.mono ?_
  rintro r w2 ⟨rfl, v2, h2, k2, m2⟩
  have V2 := Lib.hid (m2.ge (p := p) (fun b e => by cases e) (by have := S1.out; omega))
  have K2 := Lib.hid (over_ (p := p) k2 (fun b e => by cases e) K1.out (Nat.le_of_eq HP.out))
  have H2 := Lib.hid h2
  clear h2 k2 m2 K1 HB S1
  obtain ⟨x1, hx1⟩ : ∃ x1, wBytes ⟨0, []⟩ z = x1 := ⟨_, rfl⟩
  rw [hx1] at HF H2
  go_wp2_with (fail)
  refine (end_any H2.out).mono ?_
  rintro r w3 ⟨va, rfl, oa, k3⟩
  have K3 := Lib.hid (K2.out.then k3)
  have H3 := Lib.hid (H2.out.no k3)
  obtain ⟨l1, hl1⟩ : ∃ l, (outW x1).length = l := ⟨_, rfl⟩
  obtain ⟨Aa, ca, rfl⟩ := oa.len hl1
  have L1 := Lib.hid hl1
  clear oa k3 H2 K2 hl1
  go_wp2_with (at_make; refine mkU8 rfl _ _ _ rfl Try.underlying28 m _ _ rfl rfl rfl rfl (by omega) ?_; intro w4 r4 k4 s4)
  rw [HZ.out] at r4
  have HFr := Lib.hid (frame_any (kind := 1) r4 HZL.out (by decide))
  have K4 := Lib.hid (K3.out.then k4)
  have H4 := Lib.hid (H3.out.no k4)
  clear r4 k4 s4 K3 H3
  go_wp2_with (fail)
  refine HFr.out.mono ?_
  rintro r w5 ⟨vf, rfl, of, k5⟩
  obtain ⟨xf, hxf⟩ : ∃ xf, frameW 1 z = xf := ⟨_, rfl⟩
  rw [hxf] at HF of ⊢
  have K5 := Lib.hid (K4.out.then k5)
  have H5 := Lib.hid (H4.out.no k5)
  obtain ⟨lf, hlf⟩ : ∃ l, (outW xf).length = l := ⟨_, rfl⟩
  obtain ⟨Af, cf, rfl⟩ := of.len hlf
  have LF := Lib.hid hlf
  clear of k5 K4 H4 HFr hxf hlf
  go_wp2_with (fail)
  refine (bool_any (b := true) H5.out).mono ?_
  rintro r w6 ⟨rfl, v6, h6, k6, m6⟩
  have V6 := Lib.hid (m6.ge (p := p) V2.out (by have := K5.out.size; have := HP.out; have := H5.out.lt; omega))
  have K6 := Lib.hid (over_ (p := p) k6 V2.out K5.out (Nat.le_of_eq HP.out))
  have H6 := Lib.hid h6
  clear h6 k6 m6 H5 K5
  go_wp2_with (fail)
  refine (bool_any (b := false) H6.out).mono ?_
  rintro r w7 ⟨rfl, v7, h7, k7, m7⟩
  have K7 := Lib.hid (over_ (p := p) k7 V6.out K6.out (Nat.le_of_eq HP.out))
  obtain ⟨x3, hx3⟩ : ∃ x3, wBool (wBool x1 true) false = x3 := ⟨_, rfl⟩
  rw [hx3] at HF h7
  have H7 := Lib.hid h7
  clear h7 k7 m7 H6 K6 hx3 hx1
  go_wp2_with (fail)
  refine (end_any H7.out).mono ?_
  rintro r w8 ⟨vc, rfl, oc, k8⟩
  have K8 := Lib.hid (K7.out.then k8)
  obtain ⟨l3, hl3⟩ : ∃ l, (outW x3).length = l := ⟨_, rfl⟩
  obtain ⟨Ac, cc, rfl⟩ := oc.len hl3
  have HKN := Lib.hid (known_any w8)
  have HF2 := HF.out
  unfold Full at HF2
  rw [L1.out, LF.out, hl3] at HF2
  generalize x1.er = e1 at *
  generalize xf.er = ef at *
  generalize x3.er = e3 at *
  clear oc k8 K7 H7 hl3 HZ HZL HF L1 LF
  have HF3 := Lib.hid HF2
  obtain ⟨t3, ht3⟩ : ∃ t : Int, wrap64 ((m : Int) + 3) = t := ⟨_, rfl⟩
  obtain ⟨t4, ht4⟩ : ∃ t : Int, wrap64 ((m : Int) + 4) = t := ⟨_, rfl⟩
  obtain ⟨t5, ht5⟩ : ∃ t : Int, wrap64 ((m : Int) + 5) = t := ⟨_, rfl⟩
  have u3 : t3 = (m : Int) + 3 := by rw [← ht3]; unfold wrap64; omega
  have u4 : t4 = (m : Int) + 4 := by rw [← ht4]; unfold wrap64; omega
  have u5 : t5 = (m : Int) + 5 := by rw [← ht5]; unfold wrap64; omega
  clear hp
  rcases HF2 with ⟨a0, rfl, a2, rfl, a4, rfl, a6⟩ | ⟨a0, rfl, a2, rfl, a4, rfl, a6⟩ | ⟨a0, rfl, a2, rfl, rfl, rfl, rfl⟩ | ⟨a0, rfl, rfl, rfl, rfl, rfl, rfl⟩
  · have q1 : ¬ t3 > 65536 := by omega
    have q2 : ((l1 : Int) != t3) = false := by simp; omega
    have q3 : t4 ≤ 65536 := by omega
    have q4 : ((lf : Int) != t4) = false := by simp; omega
    have q5 : ((lf : Int) != 0) = true := by simp; omega
    have q6 : ¬ t5 > 65536 := by omega
    have q7 : ((l3 : Int) == t5) = true := by simp; omega
    clear a0 a2 a4 a6 u3 u4 u5
    clear ga gb HM HF3
    go_wp2_with (fail)
    refine (HKN.out).mono ?_
    rintro r w9 ⟨rfl, k9⟩
    go_wp2_with (fail)
    go_ret
    exact ⟨rfl, K8.out.then k9⟩
  · have q1 : ¬ t3 > 65536 := by omega
    have q2 : ((l1 : Int) != t3) = false := by simp; omega
    have q3 : t4 ≤ 65536 := by omega
    have q4 : ((lf : Int) != t4) = false := by simp; omega
    have q5 : ((lf : Int) != 0) = true := by simp; omega
    have q6 : t5 > 65536 := by omega
    subst a6
    clear a0 a2 a4 u3 u4 u5
    clear ga gb HM HF3
    go_wp2_with (fail)
    refine (HKN.out).mono ?_
    rintro r w9 ⟨rfl, k9⟩
    go_wp2_with (fail)
    go_ret
    exact ⟨rfl, K8.out.then k9⟩
  · have q1 : ¬ t3 > 65536 := by omega
    have q2 : ((l1 : Int) != t3) = false := by simp; omega
    have q3 : ¬ t4 ≤ 65536 := by omega
    have q6 : t5 > 65536 := by omega
    clear a0 a2 u3 u4 u5
    clear ga gb HM HF3
    go_wp2_with (fail)
    refine (HKN.out).mono ?_
    rintro r w9 ⟨rfl, k9⟩
    go_wp2_with (fail)
    go_ret
    exact ⟨rfl, K8.out.then k9⟩
  · have q1 : t3 > 65536 := by omega
    clear a0 u3 u4 u5
    clear ga gb HM HF3
    go_wp2_with (fail)
    refine (HKN.out).mono ?_
    rintro r w9 ⟨rfl, k9⟩
    go_wp2_with (fail)
    go_ret
    exact ⟨rfl, K8.out.then k9⟩
end Go.Proofs.Ytocdjieaphkbdaa
