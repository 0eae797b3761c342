/- WireOnce: reading one value and writing it again. -/
import Derived.Test.YtocdjieaphkbdaaYa
namespace Go.Proofs.Ytocdjieaphkbdaa
open Go.RowKit

/-- A call of the list: its kind and its limit lie at (b, o). -/
def ActsAt (W : World) (A : Option Addr) (n : Nat) (al : Nat → Nat × Int) : Prop := ∀ i, i < n → ∃ b o, A = some ⟨b, o, none⟩ ∧ b < W.heap.size ∧ W.cell? ⟨b, o + 2 * i, none⟩ = some (.int .u8 (al i).1) ∧ W.cell? ⟨b, o + 2 * i + 1, none⟩ = some (.int .i64 (al i).2) ∧ (al i).1 < 256 ∧ -9223372036854775808 ≤ (al i).2 ∧ (al i).2 ≤ 9223372036854775807
/-- The reader q and the writer p: what is written, with enc behind it, is what is read. -/
structure OSt (w0 w : World) (q p : Nat) (A : Option Addr) (n c : Nat) (bd : List Int) (k : Nat) (v : Value) (out enc : List Int) (er : Int) (at0 : Nat) : Prop where
  rd : RdAt w q A n c bd er at0
  rw_ : Rw w (fun i => i ≠ q ∧ i < p) .u8 (.slice A n c) bd
  wr_ : WrAt w p v ⟨0, out⟩
  len : out.length ≤ 4000 * k
  eq : er = 0 → out ++ enc = bd.take at0
  ch : Ch No w0 w
  lo : w0.heap.size ≤ q
  lt : q < p
section
variable {w0 w w' : World} {q p n c k at0 at1 : Nat} {A : Option Addr} {bd out enc : List Int} {v v' : Value} {er er' : Int}
theorem OSt.read (h : OSt w0 w q p A n c bd k v out [] er at0) (hr : RdAt w' q A n c bd er' at1) (hc : Ch (fun i => i = q) w w') (hn : Nx bd er at0 er' at1 enc) : OSt w0 w' q p A n c bd k v out enc er' at1 where
  rd := hr
  rw_ := h.rw_.ch hc fun _ _ h' e => h'.1 e
  wr_ := h.wr_.ch hc (fun e => by have := h.lt; omega) fun b hb e => by have := ((h.wr_.2 rfl).1.lt hb).1; have := h.lt; omega
  len := h.len
  eq := fun e => by
    obtain ⟨e0, e1⟩ := hn e
    have := h.eq e0
    rw [List.append_nil] at this
    rw [e1, this]
  ch := h.ch.trans hc fun i hi e => by have := h.lo; omega
  lo := h.lo
  lt := h.lt
theorem OSt.wrote (h : OSt w0 w q p A n c bd k v out enc er at0) (hk : k < 16) (he : enc.length ≤ 4000) (hw : Wrote w w' p v (wr ⟨0, out⟩ enc)) : ∃ v', OSt w0 w' q p A n c bd (k + 1) v' (out ++ enc) [] er at0 := by
  obtain ⟨v', h1, h2, h3⟩ := hw
  have hl := h.len
  rw [wr_ok (by omega)] at h1
  have hv : ∀ b, v.ownBlock = some b → p + 1 ≤ b := fun b hb => ((h.wr_.2 rfl).1.lt hb).1
  refine ⟨v', h.rd.far h.rw_ h2 (fun e => ?_) (fun i _ h' e => ?_), h.rw_.ch h2 fun i _ h' e => ?_, h1, by rw [List.length_append]; omega, fun e => by rw [List.append_nil]; exact h.eq e, h.wr_.over h2 h.ch (by have := h.lo; have := h.lt; omega), h.lo, h.lt⟩
  · rcases e with e | e
    · have := h.lt; omega
    · have := hv _ e; have := h.lt; omega
  · have := h'.2
    rcases e with e | e
    · omega
    · have := hv _ e; omega
  · have := h'.2
    rcases e with e | e
    · omega
    · have := hv _ e; omega
theorem OSt.own (h : OSt w0 w q p A n c bd k v out enc er at0) {T : TypeId} {K : IntKind} {x : Value} {u : List Int} (hx : Ow T K w' (w.heap.size + 1) x u) : Rw w' (fun i => i ≠ p ∧ ¬ Of v i) K x u :=
  hx.rw_.mono fun i _ hi => by
    have h1 := (hx.lt hi).1
    have h2 := h.wr_.lt
    refine ⟨by omega, fun e => ?_⟩
    have := ((h.wr_.2 rfl).1.lt e).2
    omega
theorem ord_uint (h : OSt w0 w q p A n c bd k v out [] er at0) : Calls Try.prog 22 #[.pointer (some ⟨q, 0, none⟩)] w fun r w' => ∃ (u : Nat) (er' : Int) (at1 : Nat), r = .returned (.int .i64 u) ∧ u < 9223372036854775808 ∧ OSt w0 w' q p A n c bd k v out (grp u) er' at1 := by
  refine (step_uint h.rd).mono ?_
  rintro r w' ⟨u, e, a, rfl, hu, h2, h3, h4⟩
  exact ⟨u, e, a, rfl, hu, h.read h2 h3 h4⟩
theorem ord_int (h : OSt w0 w q p A n c bd k v out [] er at0) : Calls Try.prog 23 #[.pointer (some ⟨q, 0, none⟩)] w fun r w' => ∃ (u : Int) (er' : Int) (at1 : Nat), r = .returned (.int .i64 u) ∧ (-9223372036854775808 ≤ u ∧ u ≤ 9223372036854775807) ∧ OSt w0 w' q p A n c bd k v out (grp (fold u)) er' at1 := by
  refine (step_int h.rd).mono ?_
  rintro r w' ⟨u, e, a, rfl, hu, hv, h2, h3, h4⟩
  exact ⟨u, e, a, rfl, ⟨hu, hv⟩, h.read h2 h3 h4⟩
theorem ord_bool (h : OSt w0 w q p A n c bd k v out [] er at0) : Calls Try.prog 24 #[.pointer (some ⟨q, 0, none⟩)] w fun r w' => ∃ (u : Bool) (er' : Int) (at1 : Nat), r = .returned (.bool u) ∧ True ∧ OSt w0 w' q p A n c bd k v out [if u then 1 else 0] er' at1 := by
  refine (step_bool h.rd).mono ?_
  rintro r w' ⟨u, e, a, rfl, h2, h3, h4⟩
  exact ⟨u, e, a, rfl, trivial, h.read h2 h3 h4⟩
theorem ord_bytes (h : OSt w0 w q p A n c bd k v out [] er at0) : Calls Try.prog 26 #[.pointer (some ⟨q, 0, none⟩), .int .i64 300] w fun r w' => ∃ (Ax : Option Addr) (nx cx : Nat) (u : List Int) (er' : Int) (at1 : Nat), r = .returned (.slice Ax nx cx) ∧ (Rw w' (fun i => i ≠ p ∧ ¬ Of v i) .u8 (.slice Ax nx cx) u ∧ u.length = nx ∧ nx ≤ 300) ∧ OSt w0 w' q p A n c bd k v out (grp u.length ++ u) er' at1 := by
  refine (step_bytes h.rd).mono ?_
  rintro r w' ⟨x, u, e, a, rfl, hx, hl, h2, h3, h4⟩
  obtain ⟨Ax, cx, rfl⟩ := hx.shape
  exact ⟨_, _, _, u, e, a, rfl, ⟨h.own hx, rfl, hl⟩, h.read h2 h3 h4⟩
theorem ord_string (h : OSt w0 w q p A n c bd k v out [] er at0) : Calls Try.prog 27 #[.pointer (some ⟨q, 0, none⟩), .int .i64 300] w fun r w' => ∃ (u : List Int) (er' : Int) (at1 : Nat), r = .returned (.string (strOfNums u)) ∧ (u.length ≤ 300 ∧ Bys8 u) ∧ OSt w0 w' q p A n c bd k v out (grp u.length ++ u) er' at1 := by
  refine (step_string h.rd).mono ?_
  rintro r w' ⟨u, e, a, rfl, hl, hb, h2, h3, h4⟩
  exact ⟨u, e, a, rfl, ⟨hl, hb⟩, h.read h2 h3 h4⟩
theorem ord_ints (h : OSt w0 w q p A n c bd k v out [] er at0) : Calls Try.prog 29 #[.pointer (some ⟨q, 0, none⟩), .int .i64 300] w fun r w' => ∃ (Ax : Option Addr) (nx cx : Nat) (u : List Int) (er' : Int) (at1 : Nat), r = .returned (.slice Ax nx cx) ∧ (Rw w' (fun i => i ≠ p ∧ ¬ Of v i) .i64 (.slice Ax nx cx) u ∧ u.length = nx ∧ nx ≤ 300 ∧ I64s u) ∧ OSt w0 w' q p A n c bd k v out (grp u.length ++ intsL u) er' at1 := by
  refine (step_ints h.rd).mono ?_
  rintro r w' ⟨x, u, e, a, rfl, hx, hl, hi, h2, h3, h4⟩
  obtain ⟨Ax, cx, rfl⟩ := hx.shape
  exact ⟨_, _, _, u, e, a, rfl, ⟨h.own hx, rfl, hl, hi⟩, h.read h2 h3 h4⟩
theorem owr_uint {u : Nat} (h : OSt w0 w q p A n c bd k v out (grp u) er at0) (hk : k < 16) (hu : u < 9223372036854775808) : Calls Try.prog 34 #[.pointer (some ⟨p, 0, none⟩), .int .i64 u] w fun r w' => r = .returned (.tuple #[]) ∧ ∃ v', OSt w0 w' q p A n c bd (k + 1) v' (out ++ (grp u)) [] er at0 := by
  refine (uint_any h.wr_ (n := (u : Int)) (by omega)).mono ?_
  rintro r w' ⟨rfl, hw⟩
  rw [show wUint ⟨0, out⟩ (u : Int) = wr ⟨0, out⟩ (grp u) by unfold wUint; rw [if_neg (by omega), Int.toNat_natCast]] at hw
  exact ⟨rfl, h.wrote hk (by have := grp_len9 hu; omega) hw⟩
theorem owr_int {u : Int} (h : OSt w0 w q p A n c bd k v out (grp (fold u)) er at0) (hk : k < 16) (hu : -9223372036854775808 ≤ u ∧ u ≤ 9223372036854775807) : Calls Try.prog 35 #[.pointer (some ⟨p, 0, none⟩), .int .i64 u] w fun r w' => r = .returned (.tuple #[]) ∧ ∃ v', OSt w0 w' q p A n c bd (k + 1) v' (out ++ (grp (fold u))) [] er at0 := by
  refine (int_any h.wr_ hu.1 hu.2).mono ?_
  rintro r w' ⟨rfl, hw⟩
  unfold wInt at hw
  exact ⟨rfl, h.wrote hk (by have := grp_len10 (fold_lt hu.1 hu.2); omega) hw⟩
theorem owr_bool {u : Bool} (h : OSt w0 w q p A n c bd k v out [if u then 1 else 0] er at0) (hk : k < 16)  : Calls Try.prog 41 #[.pointer (some ⟨p, 0, none⟩), .bool u] w fun r w' => r = .returned (.tuple #[]) ∧ ∃ v', OSt w0 w' q p A n c bd (k + 1) v' (out ++ [if u then 1 else 0]) [] er at0 := by
  refine (bool_any h.wr_).mono ?_
  rintro r w' ⟨rfl, hw⟩
  unfold wBool at hw
  exact ⟨rfl, h.wrote hk (by simp) hw⟩
theorem owr_bytes {u : List Int} {Ax : Option Addr} {nx cx : Nat} (h : OSt w0 w q p A n c bd k v out (grp u.length ++ u) er at0) (hk : k < 16) (hu : Rw w (fun i => i ≠ p ∧ ¬ Of v i) .u8 (.slice Ax nx cx) u ∧ u.length = nx ∧ nx ≤ 300) : Calls Try.prog 42 #[.pointer (some ⟨p, 0, none⟩), .slice Ax nx cx] w fun r w' => r = .returned (.tuple #[]) ∧ ∃ v', OSt w0 w' q p A n c bd (k + 1) v' (out ++ (grp u.length ++ u)) [] er at0 := by
  refine (bytes_any h.wr_ hu.1 hu.2.1 fun i _ h' => h').mono ?_
  rintro r w' ⟨rfl, hw⟩
  unfold wBytes at hw
  exact ⟨rfl, h.wrote hk (by rw [List.length_append]; have := grp_len3 (n := u.length) (by omega); omega) hw⟩
theorem owr_string {u : List Int} (h : OSt w0 w q p A n c bd k v out (grp u.length ++ u) er at0) (hk : k < 16) (hu : u.length ≤ 300 ∧ Bys8 u) : Calls Try.prog 43 #[.pointer (some ⟨p, 0, none⟩), .string (strOfNums u)] w fun r w' => r = .returned (.tuple #[]) ∧ ∃ v', OSt w0 w' q p A n c bd (k + 1) v' (out ++ (grp u.length ++ u)) [] er at0 := by
  refine (string_any h.wr_ fun b hb => ((h.wr_.2 rfl).1.lt hb).2).mono ?_
  rintro r w' ⟨rfl, hw⟩
  rw [numsOf_str hu.2] at hw
  unfold wBytes at hw
  exact ⟨rfl, h.wrote hk (by rw [List.length_append]; have := grp_len3 (n := u.length) (by omega); omega) hw⟩
theorem owr_ints {u : List Int} {Ax : Option Addr} {nx cx : Nat} (h : OSt w0 w q p A n c bd k v out (grp u.length ++ intsL u) er at0) (hk : k < 16) (hu : Rw w (fun i => i ≠ p ∧ ¬ Of v i) .i64 (.slice Ax nx cx) u ∧ u.length = nx ∧ nx ≤ 300 ∧ I64s u) : Calls Try.prog 44 #[.pointer (some ⟨p, 0, none⟩), .slice Ax nx cx] w fun r w' => r = .returned (.tuple #[]) ∧ ∃ v', OSt w0 w' q p A n c bd (k + 1) v' (out ++ (grp u.length ++ intsL u)) [] er at0 := by
  refine (ints_any h.wr_ hu.1 hu.2.1 hu.2.2.2 fun i _ h' => h').mono ?_
  rintro r w' ⟨rfl, hw⟩
  unfold wInts at hw
  exact ⟨rfl, h.wrote hk (by rw [List.length_append]; have := grp_len3 (n := u.length) (by omega); have := (intsL_len u hu.2.2.2).2; omega) hw⟩
end
end Go.Proofs.Ytocdjieaphkbdaa
