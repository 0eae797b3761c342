/- Package wire: Frame and Unframe. -/
import Derived.Test.YtocdjieaphkbdaaWp
namespace Go.Proofs.Ytocdjieaphkbdaa
open Go.RowKit

theorem Wrote.lt {w w' : World} {p : Nat} {v : Value} {x : Wst} (h : Wrote w w' p v x) : ∃ v', WrAt w' p v' x ∧ Ch (At p v) w w' ∧ Mv w v v' := h
/-- A frame, or the error. -/
def frameW (kind : Int) (bs : List Int) : Wst := wBytes (wUint ⟨0, []⟩ kind) bs
set_option maxRecDepth 100000 in
set_option maxHeartbeats 1000000 in
theorem frame_any {w : World} {P : Nat → Prop} {n c : Nat} {kind : Int} {A : Option Addr} {bs : List Int} (hb : Rw w P .u8 (.slice A n c) bs) (hn : bs.length = n) (hk : kind ≤ 9223372036854775807) :
    Calls Try.prog 38 #[.int .i64 kind, .slice A n c] w fun r w' => ∃ v', r = .returned (.tuple #[v', .int .i64 (frameW kind bs).er]) ∧ Ow 5 .u8 w' w.heap.size v' (outW (frameW kind bs)) ∧ Ch No w w' := by
  obtain ⟨x, hx⟩ : ∃ x, frameW kind bs = x := ⟨_, rfl⟩
  rw [hx]
  have HX := Lib.hid hx
  clear hx
  obtain ⟨p, hp⟩ : ∃ p, w.heap.size = p := ⟨_, rfl⟩
  have k0 : Ch No w (w.alloc (.cells #[.int .i64 0, .slice none 0 0] 30)) := Ch.new w _
  have hw : WrAt (w.alloc (.cells #[.int .i64 0, .slice none 0 0] 30)) p (.slice none 0 0) ⟨0, []⟩ := by rw [← hp]; exact WrAt.new w
  have HU := Lib.hid (uint_any (n := kind) hw hk)
  have HB := Lib.hid (hb.mono (P' := fun i => i < p) fun i hi _ => by omega)
  have HN := Lib.hid hn
  have K0 := Lib.hid k0
  have HP := Lib.hid hp
  clear hb hn hk k0 hw
  go_enter Try.func38, Try.ntmps38
  go_wp2_with (fail)
  refine HU.out.mono ?_
  rintro r w1 ⟨rfl, v1, h1, k1, m1⟩
  have K1 := Lib.hid (show Ch No w w1 from K0.out.trans k1 fun i hi e => by
    rcases e with e | e
    · have := HP.out; omega
    · cases e)
  have HB1 : Hid (Rw w1 (fun i => i < p) .u8 (.slice A n c) bs) := Lib.hid (HB.out.ch K1.out fun _ _ _ h' => h')
  have hv1 : ∀ b, v1.ownBlock = some b → p ≤ b := fun b e => by
    rcases m1 with m | ⟨g, m, h⟩
    · rw [m] at e; cases e
    · rw [m] at e; injection e with e; have := HP.out; simp at h; omega
  have HY := Lib.hid (bytes_any h1 HB1.out HN.out fun i hi h' => ⟨by omega, fun e => by have := hv1 _ e; omega⟩)
  have HV := Lib.hid hv1
  clear h1 k1 m1 hv1 HU
  go_wp2_with (fail)
  refine HY.out.mono ?_
  rintro r w2 ⟨rfl, v2, h2, k2, m2⟩
  rw [show wBytes (wUint ⟨0, []⟩ kind) bs = x from HX.out] at h2
  have K2 := Lib.hid (show Ch No w w2 from K1.out.trans k2 fun i hi e => by
    have := HP.out
    rcases e with e | e
    · omega
    · have := HV.out _ e; omega)
  have HE := Lib.hid (end_any h2)
  clear h2 k2 m2 HY
  go_wp2_with (fail)
  refine HE.out.mono ?_
  rintro r w3 ⟨v3, rfl, o3, k3⟩
  have O3 := Lib.hid (o3.less (B' := w.heap.size) K2.out.size)
  have K3 := Lib.hid (K2.out.then k3)
  clear o3 k3
  go_wp2_with (fail)
  exact bodyPost_ret (v := .tuple #[v3, .int .i64 x.er]) (by simp [results, Try.results38, go_sem]) rfl ⟨v3, rfl, O3.out, K3.out⟩
/-- What Unframe gives: the error, the kind, the payload. -/
def unframeM (bd : List Int) : Int × Int × List Int :=
  match rUint bd with
  | .bad e => (e, 0, [])
  | .good n k => match rText (bd.drop k) 65536 with
    | .bad e => (e, 0, [])
    | .good v m => if k + m < bd.length then (5, 0, []) else (0, n, v)
theorem ung_err : ∀ (k i n : Nat) (l : List Int) (e : Nat), ung k i n l = .bad e → e = 4 ∨ e = 6
  | 0, _, _, _, _, h => by
    unfold ung at h
    injection h with h
    exact .inr h.symm
  | _ + 1, _, _, [], _, h => by
    unfold ung at h
    injection h with h
    exact .inl h.symm
  | k + 1, i, n, c :: r, e, h => by
    unfold ung at h
    split at h
    · injection h with h
      exact .inr h.symm
    split at h
    · injection h with h
      exact .inr h.symm
    split at h
    · cases h
    · exact ung_err k (i + 1) _ r e h
theorem rUint_err {l : List Int} {e : Nat} (h : rUint l = .bad e) : ¬ (e : Int) = 0 := by
  have := ung_err 9 0 0 l e h
  omega
theorem rInt_err {l : List Int} {e : Nat} (h : rInt l = .bad e) : ¬ (e : Int) = 0 := by
  unfold rInt at h
  split at h
  · rename_i e' h'
    injection h with h
    have := ung_err 10 0 0 l e' h'
    omega
  · cases h
theorem rBool_err {l : List Int} {e : Nat} (h : rBool l = .bad e) : ¬ (e : Int) = 0 := by
  unfold rBool at h
  split at h
  · injection h with h; omega
  · split at h
    · injection h with h; omega
    · cases h
theorem rCount_err {l : List Int} {lim : Int} {e : Nat} (h : rCount l lim = .bad e) : ¬ (e : Int) = 0 := by
  unfold rCount at h
  split at h
  · rename_i e' h'
    injection h with h
    have := rUint_err h'
    omega
  · split at h
    · injection h with h; omega
    · split at h
      · injection h with h; omega
      · cases h
theorem rText_err {l : List Int} {lim : Int} {e : Nat} (h : rText l lim = .bad e) : ¬ (e : Int) = 0 := by
  unfold rText at h
  split at h
  · rename_i e' h'
    injection h with h
    have := rCount_err h'
    omega
  · split at h
    · injection h with h; omega
    · cases h
theorem lst_err : ∀ (n : Nat) (acc : List Int) (k : Nat) (l : List Int) (e : Nat), lst n acc k l = .bad e → ¬ (e : Int) = 0
  | 0, acc, k, l, e, h => by unfold lst at h; cases h
  | n + 1, acc, k, l, e, h => by
    unfold lst at h
    split at h
    · rename_i e' h'
      injection h with h
      have := rInt_err h'
      omega
    · exact lst_err n _ _ l e h
theorem rList_err {l : List Int} {lim : Int} {e : Nat} (h : rList l lim = .bad e) : ¬ (e : Int) = 0 := by
  unfold rList at h
  split at h
  · rename_i e' h'
    injection h with h
    have := rCount_err h'
    omega
  · exact lst_err _ _ _ l e h
theorem unframe_e0 {bd : List Int} (h : (unframeM bd).1 = 0) : ∃ n k v m, rUint bd = .good n k ∧ rText (bd.drop k) 65536 = .good v m ∧ bd.length ≤ k + m ∧ unframeM bd = (0, (n : Int), v) := by
  unfold unframeM at h ⊢
  split at h
  · rename_i e h'
    exact absurd h (rUint_err h')
  · rename_i n k h'
    split at h
    · rename_i e h2
      exact absurd h (rText_err h2)
    · rename_i v m h2
      split at h
      · cases h
      · rename_i h3
        refine ⟨n, k, v, m, by assumption, h2, by omega, ?_⟩
        rw [if_neg h3]
set_option maxRecDepth 100000 in
set_option maxHeartbeats 2000000 in
theorem unframe_any {w : World} {P : Nat → Prop} {v : Value} {ds : List Int} (h : Rw w P .u8 v ds) (hl : ds.length < 1000000) (hb : Bys8 ds) :
    Calls Try.prog 39 #[v] w fun r w' => ∃ x, r = .returned (.tuple #[.int .i64 (unframeM ds).2.1, x, .int .i64 (unframeM ds).1]) ∧ Ow 5 .u8 w' w.heap.size x (unframeM ds).2.2 ∧ Ch No w w' := by
  have HR := Lib.hid (read_any h hl hb)
  clear h hl hb
  go_enter Try.func39, Try.ntmps39
  go_wp2_with (fail)
  refine HR.out.mono ?_
  rintro r w1 ⟨q, A, c, rfl, hq, hr, k1, -⟩
  have HQ := Lib.hid hq
  have K1 := Lib.hid k1
  have HU := ruint_ok hr
  rw [List.drop_zero] at HU
  cases h1 : rUint ds with
  | bad e =>
    have hM : unframeM ds = ((e : Int), 0, []) := by unfold unframeM; rw [h1]
    have HM := Lib.hid hM
    rw [h1] at HU
    have HE := Lib.hid (rUint_err h1)
    have HU := Lib.hid HU
    clear hr hq k1 h1 hM
    go_wp2_with (fail)
    refine HU.out.mono ?_
    rintro r w2 ⟨k2, rfl, r2⟩
    have K2 := Lib.hid (show Ch No w w2 from K1.out.trans k2 fun i hi e => by have := HQ.out; omega)
    have HT := Lib.hid (rbytes_err (lim := 65536) r2 HE.out)
    have R2 := Lib.hid r2
    clear k2 r2
    go_wp2_with (fail)
    refine HT.out.mono ?_
    rintro r w3 ⟨rfl, k3⟩
    have K3 := Lib.hid (K2.out.then k3)
    have HN := rend_ok (R2.out.no k3)
    have HEN : endE (e : Int) 0 ds.length = (e : Int) := by unfold endE; rw [if_neg HE.out]
    rw [HEN] at HN
    have HN := Lib.hid HN
    have gb : (((e : Nat) : Int) != 0) = true := by simpa using HE.out
    clear k3 HEN
    go_wp2_with (fail)
    refine HN.out.mono ?_
    rintro r w4 ⟨rfl, k4⟩
    go_wp2_with (fail)
    exact bodyPost_ret (v := .tuple #[.int .i64 0, .slice none 0 0, .int .i64 e]) (by simp [results, Try.results39, go_sem]) rfl ⟨_, by rw [HM.out], by rw [HM.out]; exact Ow.nil_, K3.out.then k4⟩
  | good n k =>
    rw [h1] at HU
    have HU := Lib.hid HU
    have H1 := Lib.hid h1
    clear hr hq k1 h1
    go_wp2_with (fail)
    refine HU.out.mono ?_
    rintro r w2 ⟨k2, ⟨x, rfl, rfl⟩, r2⟩
    rw [Nat.zero_add] at r2
    have K2 := Lib.hid (show Ch No w w2 from K1.out.trans k2 fun i hi e => by have := HQ.out; omega)
    have HT := rbytes_ok (lim := 65536) r2
    have HQ2 : Hid (w.heap.size ≤ q ∧ q < w2.heap.size) := Lib.hid ⟨HQ.out, r2.lt⟩
    clear k2 r2 HU
    cases h2 : rText (ds.drop k) 65536 with
    | bad e =>
      have hM : unframeM ds = ((e : Int), 0, []) := by unfold unframeM; rw [H1.out]; simp only; rw [h2]
      have HM := Lib.hid hM
      rw [h2] at HT
      have HE := Lib.hid (rText_err h2)
      have HT := Lib.hid HT
      clear h2 hM
      go_wp2_with (fail)
      refine HT.out.mono ?_
      rintro r w3 ⟨k3, rfl, r3⟩
      have K3 := Lib.hid (show Ch No w w3 from K2.out.trans k3 fun i hi e => by have := HQ2.out; omega)
      have HN := rend_ok r3
      have HEN : endE (e : Int) k ds.length = (e : Int) := by unfold endE; rw [if_neg HE.out]
      rw [HEN] at HN
      have HN := Lib.hid HN
      have gb : (((e : Nat) : Int) != 0) = true := by simpa using HE.out
      clear k3 HEN r3
      go_wp2_with (fail)
      refine HN.out.mono ?_
      rintro r w4 ⟨rfl, k4⟩
      go_wp2_with (fail)
      exact bodyPost_ret (v := .tuple #[.int .i64 0, .slice none 0 0, .int .i64 e]) (by simp [results, Try.results39, go_sem]) rfl ⟨_, by rw [HM.out], by rw [HM.out]; exact Ow.nil_, K3.out.then k4⟩
    | good v m =>
      rw [h2] at HT
      have HT := Lib.hid HT
      have H2 := Lib.hid h2
      clear h2
      go_wp2_with (fail)
      refine HT.out.mono ?_
      rintro r w3 ⟨k3, ⟨x, rfl, hx⟩, r3⟩
      have K3 := Lib.hid (show Ch No w w3 from K2.out.trans k3 fun i hi e => by have := HQ2.out; omega)
      have X3 := Lib.hid (hx.less (B' := w.heap.size) (Nat.le_trans K2.out.size (Nat.le_succ _)))
      have HN := rend_ok r3
      clear k3 hx r3
      by_cases g : k + m < ds.length
      · have hM : unframeM ds = (5, 0, []) := by unfold unframeM; rw [H1.out]; simp only; rw [H2.out]; simp only; rw [if_pos g]
        have HM := Lib.hid hM
        have HEN : endE 0 (k + m) ds.length = 5 := by unfold endE; rw [if_pos rfl, if_pos g]
        rw [HEN] at HN
        have HN := Lib.hid HN
        clear hM HEN g
        go_wp2_with (fail)
        refine HN.out.mono ?_
        rintro r w4 ⟨rfl, k4⟩
        go_wp2_with (fail)
        exact bodyPost_ret (v := .tuple #[.int .i64 0, .slice none 0 0, .int .i64 5]) (by simp [results, Try.results39, go_sem]) rfl ⟨_, by rw [HM.out], by rw [HM.out]; exact Ow.nil_, K3.out.then k4⟩
      · have hM : unframeM ds = (0, (n : Int), v) := by unfold unframeM; rw [H1.out]; simp only; rw [H2.out]; simp only; rw [if_neg g]
        have HM := Lib.hid hM
        have HEN : endE 0 (k + m) ds.length = 0 := by unfold endE; rw [if_pos rfl, if_neg g]
        rw [HEN] at HN
        have HN := Lib.hid HN
        clear hM HEN g
        go_wp2_with (fail)
        refine HN.out.mono ?_
        rintro r w4 ⟨rfl, k4⟩
        have X4 := Lib.hid (X3.out.no k4)
        go_wp2_with (fail)
        exact bodyPost_ret (v := .tuple #[.int .i64 n, x, .int .i64 0]) (by simp [results, Try.results39, go_sem]) rfl ⟨_, by rw [HM.out], by rw [HM.out]; exact X4.out, K3.out.then k4⟩
end Go.Proofs.Ytocdjieaphkbdaa
