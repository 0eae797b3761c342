/- Package wire: a writer's methods: Bool, Bytes, String. -/
import Derived.Test.YtocdjieaphkbdaaWe
namespace Go.Proofs.Ytocdjieaphkbdaa
open Go.RowKit

theorem wUint_bool (x : Wst) (b : Bool) : wUint x (if b then 1 else 0) = wBool x b := by
  unfold wUint wBool
  cases b
  · simp only [Bool.false_eq_true, if_false]
    rw [if_neg (by omega), show grp (Int.toNat 0) = [0] from grp_lt (by decide)]
  · simp only [if_true]
    rw [if_neg (by omega), show grp (Int.toNat 1) = [1] from grp_lt (by decide)]
theorem bool_any {w : World} {p : Nat} {v : Value} {x : Wst} {b : Bool} (h : WrAt w p v x) :
    Calls Try.prog 41 #[.pointer (some ⟨p, 0, none⟩), .bool b] w fun r w' => r = .returned (.tuple #[]) ∧ Wrote w w' p v (wBool x b) := by
  cases b with
  | false =>
    have HU := Lib.hid (uint_any (n := 0) h (by decide))
    have HE : Hid (wUint x 0 = wBool x false) := Lib.hid (wUint_bool x false)
    clear h
    go_enter Try.func41, Try.ntmps41
    go_wp2_with (fail)
    refine HU.out.mono ?_
    rintro e w1 ⟨rfl, h1⟩
    go_wp2_with (fail)
    first | go_end0 | refine bodyPost_ret (results_none rfl _ _ _) rfl ?_
    rw [← HE.out]
    exact ⟨rfl, h1⟩
  | true =>
    have HU := Lib.hid (uint_any (n := 1) h (by decide))
    have HE : Hid (wUint x 1 = wBool x true) := Lib.hid (wUint_bool x true)
    clear h
    go_enter Try.func41, Try.ntmps41
    go_wp2_with (fail)
    refine HU.out.mono ?_
    rintro e w1 ⟨rfl, h1⟩
    go_wp2_with (fail)
    first | go_end0 | refine bodyPost_ret (results_none rfl _ _ _) rfl ?_
    rw [← HE.out]
    exact ⟨rfl, h1⟩
theorem wr_great {y bs : List Int} (h : 65536 < (y ++ bs).length) : wr ⟨0, y⟩ bs = ⟨7, y⟩ := by unfold wr; rw [if_pos rfl, if_pos h]
set_option maxRecDepth 100000 in
set_option maxHeartbeats 1000000 in
theorem bytes_any {w : World} {P : Nat → Prop} {p n c : Nat} {A : Option Addr} {v : Value} {x : Wst} {bs : List Int} (h : WrAt w p v x) (hb : Rw w P .u8 (.slice A n c) bs) (hn : bs.length = n) (hP : ∀ i, i < w.heap.size → P i → i ≠ p ∧ ¬ Of v i) :
    Calls Try.prog 42 #[.pointer (some ⟨p, 0, none⟩), .slice A n c] w fun r w' => r = .returned (.tuple #[]) ∧ Wrote w w' p v (wBytes x bs) := by
  subst hn
  obtain ⟨n, hn⟩ : ∃ n, bs.length = n := ⟨_, rfl⟩
  obtain ⟨e, y⟩ := x
  by_cases he : e = 0
  · subst he
    have HR := Lib.hid (ready_0 h)
    by_cases g : 65536 < n
    · have HF := Lib.hid (room_1 (n := n) h.zero g)
      have HW := Lib.hid (h.zero.bad (e := 7) (by decide) y)
      have HE : Hid (wBytes ⟨0, y⟩ bs = ⟨7, y⟩) := Lib.hid (by unfold wBytes; rw [wr_great]; rw [List.length_append, List.length_append]; omega)
      rw [hn]
      clear h hb hP hn
      go_enter Try.func42, Try.ntmps42
      go_wp2_with (fail)
      refine HR.out.mono ?_
      rintro e w1 ⟨rfl, rfl⟩
      go_wp2_with (fail)
      refine HF.out.mono ?_
      rintro e w2 ⟨rfl, rfl⟩
      go_wp2_with (fail)
      first | go_end0 | refine bodyPost_ret (results_none rfl _ _ _) rfl ?_
      rw [HE.out]
      exact ⟨rfl, v, HW.out, (Ch.put _ _ _ _).mono fun i _ e => .inl e, Mv.refl _ _⟩
    · have HF := Lib.hid (room_0 (n := n) h.zero (by omega))
      have hw : IntKind.u64.wrap (n : Int) = n := by rw [IntKind.wrap_u64]; omega
      obtain ⟨ho, hy⟩ := h.2 rfl
      have c1 := h.c1
      have HG := Lib.hid (group_any (n := n) ho h.lt (by omega) (Nat.lt_of_le_of_lt hy (by decide)))
      have HL : Hid ((y ++ grp n).length < 1000000 ∧ bs.length < 1000000) := Lib.hid (by have := grp_len10 (n := n) (by omega); rw [List.length_append]; have := hy; simp only at this; omega)
      have HX := Lib.hid h.zero
      have HO := Lib.hid ho
      have HB := Lib.hid hb
      have HP := Lib.hid hP
      have HN := Lib.hid hn
      rw [hn]
      clear h ho hy hb hP hn g
      go_enter Try.func42, Try.ntmps42
      go_wp2_with (fail)
      refine HR.out.mono ?_
      rintro e w1 ⟨rfl, rfl⟩
      go_wp2_with (fail)
      refine HF.out.mono ?_
      rintro e w2 ⟨rfl, rfl⟩
      go_wp2_with (fail)
      refine HG.out.mono ?_
      rintro e w3 ⟨v3, rfl, o3, k3, m3⟩
      have HB3 : Hid (Rw w3 P .u8 (.slice A n c) bs) := Lib.hid (by
        have := HB.out.ch k3 fun i hi h' => (HP.out i hi h').2
        rwa [HN.out] at this)
      have O3 := Lib.hid o3
      have S3 : Hid (p + 1 ≤ w3.heap.size) := Lib.hid (Nat.le_trans HX.out.lt k3.size)
      clear o3
      go_wp2_with (at_builtin; refine app rfl _ _ _ rfl Try.underlying28 infoU8 (by decide) rfl rfl O3.out S3.out P bs HB3.out (by have := HL.out; omega) ?_)
      intro v4 w4 o4 k4 m4
      have K4 : Hid (Ch (Of v) w2 w4) := Lib.hid (k3.trans k4 fun i hi h' => m3.of hi h')
      have M4 : Hid (Mv w2 v v4) := Lib.hid (m3.trans m4 k3.size)
      have HK := Lib.hid (keep_any y (HX.out.ch K4.out (fun e => by have := (HO.out.lt e).1; omega)) o4 (by have := HL.out; simp only [List.length_append] at this ⊢; omega))
      clear o4 k4 m4 k3 m3 c1 HG O3 S3 HB3
      go_wp2_with (fail)
      refine HK.out.mono ?_
      rintro e w5 ⟨rfl, v5, h5, k5, e5⟩
      have HF := Lib.hid (wrote_keep K4.out.size (K4.out.mono fun i _ e => Or.inr e) M4.out h5 k5 e5)
      clear h5 k5 e5
      go_wp2_with (fail)
      first | go_end0 | refine bodyPost_ret (results_none rfl _ _ _) rfl ?_
      refine ⟨rfl, ?_⟩
      unfold wBytes
      rw [HN.out]
      exact HF.out
  · have HR := Lib.hid (ready_1 h he)
    have HE : Hid (wBytes ⟨e, y⟩ bs = ⟨e, y⟩) := Lib.hid (by unfold wBytes; rw [wr_bad he])
    have HW := Lib.hid (wrote_refl h)
    clear h he hb hP
    go_enter Try.func42, Try.ntmps42
    go_wp2_with (fail)
    refine HR.out.mono ?_
    rintro e w1 ⟨rfl, rfl⟩
    go_wp2_with (fail)
    first | go_end0 | refine bodyPost_ret (results_none rfl _ _ _) rfl ?_
    rw [HE.out]
    exact ⟨rfl, HW.out⟩
/-- The bytes of a string, as numbers. -/
def numsOf (s : ByteArray) : List Int := s.data.toList.map fun b => ((b.toNat : Nat) : Int)
theorem numsOf_len (s : ByteArray) : (numsOf s).length = s.size := by unfold numsOf; rw [List.length_map, Array.length_toList]; rfl
theorem numsOf_by (s : ByteArray) : Bys8 (numsOf s) := by
  intro x hx
  obtain ⟨b, -, rfl⟩ := List.mem_map.1 hx
  have := b.toNat_lt
  exact ⟨by omega, by omega⟩
/-- []byte(s). -/
theorem conv_str (w : World) (s : ByteArray) : ∃ W' c, (convert 9 28 (.string s)).run Try.prog w = .ok (.slice (some ⟨w.heap.size, 0, none⟩) s.size c) W' ∧ Ch No w W' ∧ Rw W' (fun i => i = w.heap.size) .u8 (.slice (some ⟨w.heap.size, 0, none⟩) s.size c) (numsOf s) := by
  refine ⟨_, _, run_bytes_of_string w 9 28 5 s Try.underlying9 Try.underlying28 Try.underlying5, ?_, ?_⟩
  · exact (Ch.refl No w).drew.alloc _
  · refine ⟨_, _, by rw [numsOf_len], by rw [numsOf_len]; exact grownCap_ge _ _ _ _, fun e => (by cases e), fun h0 => ⟨w.heap.size, 0, rfl, rfl, ?_, fun k hk => ?_⟩⟩
    · show w.heap.size < (w.heap.push _).size
      rw [Array.size_push]
      omega
    · rw [numsOf_len] at hk
      have hg := heap_alloc_new w.drew (.cells (bytesRow s (grownCap w s.size 0 5)) 5 ((bytesRow s (grownCap w s.size 0 5)).size, (bytesRow s (grownCap w s.size 0 5)).size + 1))
      rw [Nat.zero_add, cell_of_row _ w.heap.size k _ 5 _ hg]
      have h1 : k < s.data.size := hk
      unfold bytesRow numsOf at_
      rw [Array.getElem?_append_left (by rw [Array.size_map]; exact h1)]
      simp
      exact ⟨s.data[k], Array.getElem?_eq_getElem h1, by rw [Array.getElem?_eq_getElem h1]; rfl⟩
theorem wrote_after {w w1 w2 : World} {p : Nat} {v : Value} {x : Wst} (k : Ch No w w1) (h : Wrote w1 w2 p v x) : Wrote w w2 p v x := by
  obtain ⟨v', h1, h2, h3⟩ := h
  exact ⟨v', h1, k.after h2, (Mv.refl w v).trans h3 k.size⟩
theorem string_any {w : World} {p : Nat} {v : Value} {x : Wst} {s : ByteArray} (h : WrAt w p v x) (hv : ∀ b, v.ownBlock = some b → b < w.heap.size) :
    Calls Try.prog 43 #[.pointer (some ⟨p, 0, none⟩), .string s] w fun r w' => r = .returned (.tuple #[]) ∧ Wrote w w' p v (wBytes x (numsOf s)) := by
  obtain ⟨W', c, hcv, k1, r1⟩ := conv_str w s
  have HC := Lib.hid (bytes_any (h.no k1) r1 (numsOf_len s) (fun i _ e => by
    subst e
    exact ⟨by have := h.lt; omega, fun e => by have := hv _ e; omega⟩))
  have K1 := Lib.hid k1
  clear h hv k1 r1
  go_enter Try.func43, Try.ntmps43
  go_wp2_with (fail)
  refine HC.out.mono ?_
  rintro e w1 ⟨rfl, h1⟩
  have H1 := Lib.hid (wrote_after K1.out h1)
  clear h1 hcv
  go_wp2_with (fail)
  first | go_end0 | refine bodyPost_ret (results_none rfl _ _ _) rfl ?_
  exact ⟨rfl, H1.out⟩
end Go.Proofs.Ytocdjieaphkbdaa
