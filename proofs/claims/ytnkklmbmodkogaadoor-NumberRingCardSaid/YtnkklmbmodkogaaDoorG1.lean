/- Small facts that every text of this seat uses: Add64, Sub64 and Mul64 over Int, fit for a walk. Plain facts: limbs in a block, bytes in a row, the number of limbs without leading zeros. No walk. magnitude.length, magnitude.isZero. A multiply-and-add of limbs. Plain arithmetic: the bytes and the 64-bit limbs of a natural number. No walk, no program. A row of bytes that the call itself made; append of one byte. The reference's Trim and Abs. The reference's Order. -/
import Derived.Test.YtnkklmbmodkogaaDoorRows
import Derived.Test.YtnkklmbmodkogaaDoorSh
import Derived.WalkKit
import Derived.WalkSpells
import Derived.WalkLawsBesides
import Derived.Shelf.Spec.BitsCarry
import Derived.Lib.Hide
import Derived.Deep.QuietTactic
import Derived.BigQuiet
import Derived.RowKit3
/-! Base -/
namespace Go.Proofs.YtnkklmbmodkogaaDoor
open Go.RowKit

/-- A word. -/
def Word (x : Int) : Prop := 0 ≤ x ∧ x < 18446744073709551616
theorem word_mod (x : Int) : Word (x % 18446744073709551616) := ⟨by omega, by omega⟩
/-- A borrow, under a name. -/
def bor (x y : Int) : Int := if x < y then 1 else 0
theorem bor_01 (x y : Int) : 0 ≤ bor x y ∧ bor x y ≤ 1 := by unfold bor; split <;> omega

/-- The low word and the rest of a number, under names: simp rewrites sums of remainders otherwise. -/
def lo64 (s : Int) : Int := s % 18446744073709551616
def hi64 (s : Int) : Int := s / 18446744073709551616
theorem lohi (s : Int) : s = 18446744073709551616 * hi64 s + lo64 s ∧ 0 ≤ lo64 s ∧ lo64 s < 18446744073709551616 := by unfold hi64 lo64; omega
theorem lo64_word (s : Int) : Word (lo64 s) := word_mod s

theorem add64 (x y c : Int) (hx : 0 ≤ x) (hy : 0 ≤ y) (hc0 : 0 ≤ c) (hc : c ≤ 1) (w : World) :
    (callFunc 77 #[.int .u64 x, .int .u64 y, .int .u64 c]).run Tryd.prog w =
      .ok (.value (.tuple #[.int .u64 (lo64 (x + y + c)), .int .u64 (hi64 (x + y + c))])) w := by
  obtain ⟨x, rfl⟩ := Int.eq_ofNat_of_zero_le hx
  obtain ⟨y, rfl⟩ := Int.eq_ofNat_of_zero_le hy
  obtain ⟨c, rfl⟩ := Int.eq_ofNat_of_zero_le hc0
  rw [run_callFunc_extern Tryd.func77 (by kernel_rfl) (by kernel_rfl) (by kernel_rfl) (e := add64Entry) (by kernel_rfl), run_add64 x y c (by omega) (by omega) (by omega) (by omega)]
  simp only [Result.andThen, lo64, hi64]
theorem add64_0 (x y : Int) (hx : 0 ≤ x) (hy : 0 ≤ y) (w : World) :
    (callFunc 77 #[.int .u64 x, .int .u64 y, .int .u64 0]).run Tryd.prog w =
      .ok (.value (.tuple #[.int .u64 (lo64 (x + y)), .int .u64 (hi64 (x + y))])) w := by
  simpa using add64 x y 0 hx hy (Int.le_refl 0) (by decide) w
theorem sub64 (x y b : Int) (hx : 0 ≤ x) (hy : 0 ≤ y) (hy' : y < 18446744073709551616) (hb0 : 0 ≤ b) (hb : b ≤ 1) (w : World) :
    (callFunc 78 #[.int .u64 x, .int .u64 y, .int .u64 b]).run Tryd.prog w =
      .ok (.value (.tuple #[.int .u64 (lo64 (x - y - b)), .int .u64 (bor x (y + b))])) w := by
  obtain ⟨x, rfl⟩ := Int.eq_ofNat_of_zero_le hx
  obtain ⟨y, rfl⟩ := Int.eq_ofNat_of_zero_le hy
  obtain ⟨b, rfl⟩ := Int.eq_ofNat_of_zero_le hb0
  have e1 : (((x + 18446744073709551616 - y - b) % 18446744073709551616 : Nat) : Int) = lo64 ((x : Int) - y - b) := by unfold lo64; omega
  have e2 : ((if x < y + b then 1 else 0 : Nat) : Int) = bor (x : Int) (y + b) := by unfold bor; split <;> split <;> omega
  rw [← e1, ← e2, run_callFunc_extern Tryd.func78 (by kernel_rfl) (by kernel_rfl) (by kernel_rfl) (e := sub64Entry) (by kernel_rfl), run_sub64 x y b (by omega)]
  rfl
theorem mul64 (x y : Int) (hx : Word x) (hy : Word y) (w : World) :
    Calls Tryd.prog 91 #[.int .u64 x, .int .u64 y] w fun e w' => e = .returned (.tuple #[.int .u64 (hi64 (x * y)), .int .u64 (lo64 (x * y))]) ∧ w = w' := by
  obtain ⟨hx0, hx1⟩ := hx
  obtain ⟨hy0, hy1⟩ := hy
  obtain ⟨x, rfl⟩ := Int.eq_ofNat_of_zero_le hx0
  obtain ⟨y, rfl⟩ := Int.eq_ofNat_of_zero_le hy0
  refine (Tryd.bits_Mul64 x y (by omega) (by omega) w).mono fun e w' h => ⟨h.1.trans ?_, h.2.symm⟩
  unfold hi64 lo64
  rw [← Int.natCast_mul]
  rfl
theorem mul_bound (x y : Int) (hx : Word x) (hy : Word y) : 0 ≤ x * y ∧ x * y ≤ 18446744073709551615 * 18446744073709551615 := by
  obtain ⟨a, b⟩ := hx; obtain ⟨c, d⟩ := hy
  exact ⟨Int.mul_nonneg a c, Int.mul_le_mul (by omega) (by omega) c (by omega)⟩
end Go.Proofs.YtnkklmbmodkogaaDoor

/-! Mem -/
namespace Go.Proofs.YtnkklmbmodkogaaDoor
open Go.RowKit

theorem ret_i {k : IntKind} {a b : Int} (h : a = b) : Ending.returned (.int k a) = .returned (.int k b) := by rw [h]
theorem ret_b {a b : Bool} (h : a = b) : Ending.returned (.bool a) = .returned (.bool b) := by rw [h]
theorem ret_ii {k j : IntKind} {a b c d : Int} (h : a = b) (h' : c = d) : Ending.returned (.tuple #[.int k a, .int j c]) = .returned (.tuple #[.int k b, .int j d]) := by rw [h, h']

theorem ret_sl {A : Option Addr} {n m c : Nat} (h : n = m) : Ending.returned (.slice A n c) = .returned (.slice A m c) := by rw [h]
theorem vi {k : IntKind} {a b : Int} (h : a = b) : Value.int k a = .int k b := by rw [h]

/-! ### Limbs -/
def mag (xs : List Int) : Array Value := (xs.map (Value.int .u64)).toArray
def Words (xs : List Int) : Prop := ∀ x ∈ xs, Word x
theorem list8 {xs : List Int} (h : xs.length = 8) : ∃ a b c d e f g i, xs = [a, b, c, d, e, f, g, i] := by
  match xs, h with
  | [a, b, c, d, e, f, g, i], _ => exact ⟨a, b, c, d, e, f, g, i, rfl⟩
theorem Words.at_ {xs : List Int} (h : Words xs) (k : Nat) : Word (xs[k]?.getD 0) := by
  rcases Nat.lt_or_ge k xs.length with hk | hk
  · rw [List.getElem?_eq_getElem hk]; exact h _ (List.getElem_mem hk)
  · rw [List.getElem?_eq_none hk]; exact ⟨by simp, by simp⟩
theorem Words.set_ {xs : List Int} (h : Words xs) (k : Nat) {v : Int} (hv : Word v) : Words (xs.set k v) := by
  intro x hx
  rcases List.mem_or_eq_of_mem_set hx with h1 | h1
  · exact h x h1
  · exact h1 ▸ hv
theorem words0 : Words [0, 0, 0, 0, 0, 0, 0, 0] := by intro x hx; simp at hx; subst hx; exact ⟨by omega, by omega⟩

/-- Block b is one variable of type T that holds the words xs. -/
def Box (w : World) (b : Nat) (T : TypeId) (xs : List Int) : Prop := w.heap[b]? = some (.cells (mag xs) T (0, 0))
section
variable {w w' : World} {b : Nat} {T : TypeId} {xs : List Int}
theorem Box.lt (h : Box w b T xs) : b < w.heap.size := by
  rcases Nat.lt_or_ge b w.heap.size with hl | hl
  · exact hl
  · unfold Box at h; rw [Array.getElem?_eq_none hl] at h; cases h
theorem Box.cell (h : Box w b T xs) (k : Nat) (hk : k < xs.length) : w.cell? ⟨b, k, none⟩ = some (.int .u64 (xs[k]?.getD 0)) := by
  have := cell_of_row w b k (mag xs) T (0, 0) h
  rw [this]
  simp [mag, hk]
theorem Box.free (h : Box w b T xs) (k : Nat) : w.frozen? ⟨b, k, none⟩ = false := by
  unfold Box at h
  simp [World.frozen?, h]
theorem Box.new (w : World) (T : TypeId) (xs : List Int) : Box (w.alloc (.cells (mag xs) T)) w.heap.size T xs := heap_alloc_new w _
theorem Box.drew (h : Box w b T xs) : Box w.drew b T xs := h
theorem Box.drewN (h : Box w b T xs) (n : Nat) : Box (w.drewN n) b T xs := h
theorem Box.alloc (h : Box w b T xs) (o : Obj) : Box (w.alloc o) b T xs := (Below.heap_alloc w o b h.lt).trans h
theorem Box.set_ (h : Box w b T xs) (k : Nat) (v : Int) : Box (w.setCell ⟨b, k, none⟩ (.int .u64 v)) b T (xs.set k v) := by
  unfold Box at h ⊢
  simp [World.setCell, Array.getElem?_modify, h, mag, List.map_set]
theorem Box.far (h : Box w b T xs) {p : Addr} (hp : b ≠ p.block) (u : Value) : Box (w.setCell p u) b T xs := (Below.heap_setCell w p u b hp).trans h
theorem Box.below {B : Nat} (h : Box w b T xs) (hb : Below B w w') (hg : b < B) : Box w' b T xs := (hb.block b hg).trans h
end

/-- Block b is one variable of type T with the cells cs. -/
def Var (w : World) (b : Nat) (T : TypeId) (cs : Array Value) : Prop := w.heap[b]? = some (.cells cs T (0, 0))
section
variable {w w' : World} {b : Nat} {T : TypeId} {cs : Array Value}
theorem Var.lt (h : Var w b T cs) : b < w.heap.size := by
  rcases Nat.lt_or_ge b w.heap.size with hl | hl
  · exact hl
  · unfold Var at h; rw [Array.getElem?_eq_none hl] at h; cases h
theorem Var.cell (h : Var w b T cs) (k : Nat) : w.cell? ⟨b, k, none⟩ = cs[k]? := cell_of_row w b k cs T (0, 0) h
theorem Var.free (h : Var w b T cs) (k : Nat) : w.frozen? ⟨b, k, none⟩ = false := by
  unfold Var at h
  simp [World.frozen?, h]
theorem Var.new (w : World) (T : TypeId) (cs : Array Value) : Var (w.alloc (.cells cs T)) w.heap.size T cs := heap_alloc_new w _
theorem Var.drewN (h : Var w b T cs) (n : Nat) : Var (w.drewN n) b T cs := h
theorem Var.alloc (h : Var w b T cs) (o : Obj) : Var (w.alloc o) b T cs := (Below.heap_alloc w o b h.lt).trans h
theorem Var.set_ (h : Var w b T cs) (k : Nat) (u : Value) : Var (w.setCell ⟨b, k, none⟩ u) b T (cs.setIfInBounds k u) := heap_setCell_same w b k cs T u h
theorem Var.far (h : Var w b T cs) {p : Addr} (hp : b ≠ p.block) (u : Value) : Var (w.setCell p u) b T cs := (Below.heap_setCell w p u b hp).trans h
theorem Var.below {B : Nat} (h : Var w b T cs) (hb : Below B w w') (hg : b < B) : Var w' b T cs := (hb.block b hg).trans h
end

/-- The number of words without leading zeros. -/
def top : List Int → Nat
  | [] => 0
  | x :: xs => if top xs = 0 then (if x = 0 then 0 else 1) else top xs + 1
theorem top_le (xs : List Int) : top xs ≤ xs.length := by
  induction xs with
  | nil => simp [top]
  | cons x xs ih => simp only [top, List.length_cons]; split <;> (try split) <;> omega
theorem top_ne (xs : List Int) (h : 0 < top xs) : xs[top xs - 1]?.getD 0 ≠ 0 := by
  induction xs with
  | nil => simp [top] at h
  | cons x xs ih =>
    simp only [top] at h ⊢
    split
    · rename_i h0
      rw [if_pos h0] at h
      split
      · rename_i hx; rw [if_pos hx] at h; omega
      · simpa using ‹_›
    · rename_i h0
      have : top xs + 1 - 1 = (top xs - 1) + 1 := by omega
      rw [this, List.getElem?_cons_succ]
      exact ih (by omega)
theorem top_zero (xs : List Int) (k : Nat) (h : top xs ≤ k) : xs[k]?.getD 0 = 0 := by
  induction xs generalizing k with
  | nil => simp
  | cons x xs ih =>
    simp only [top] at h
    cases k with
    | zero =>
      split at h
      · split at h
        · simpa using ‹x = 0›
        · omega
      · omega
    | succ k =>
      rw [List.getElem?_cons_succ]
      refine ih k ?_
      split at h <;> (try split at h) <;> omega
theorem top_unique (xs : List Int) (n : Nat) (hn : 0 < n → xs[n - 1]?.getD 0 ≠ 0) (hz : ∀ k, n ≤ k → xs[k]?.getD 0 = 0) : top xs = n := by
  rcases Nat.lt_trichotomy (top xs) n with h | h | h
  · exact absurd (top_zero xs (n - 1) (by omega)) (hn (by omega))
  · exact h
  · exact absurd (hz (top xs - 1) (by omega)) (top_ne xs (by omega))
theorem top_all (xs : List Int) (h : top xs = 0) : ∀ x ∈ xs, x = 0 := by
  intro x hx
  obtain ⟨k, hk, rfl⟩ := List.mem_iff_getElem.1 hx
  have := top_zero xs k (by omega)
  simpa [hk] using this

/-- The value of words, the lowest one first. -/
def lv : List Int → Int
  | [] => 0
  | x :: xs => x + 18446744073709551616 * lv xs
theorem lv_nonneg {xs : List Int} (h : Words xs) : 0 ≤ lv xs := by
  induction xs with
  | nil => simp [lv]
  | cons x xs ih => have := ih (fun y hy => h y (List.mem_cons_of_mem _ hy)); have := (h x (List.mem_cons_self ..)).1; simp only [lv]; omega

/-! ### Bytes -/
def Byte (x : Int) : Prop := 0 ≤ x ∧ x < 256
def Bytes (ds : List Int) : Prop := ∀ x ∈ ds, Byte x
theorem Bytes.at_ {ds : List Int} (h : Bytes ds) (k : Nat) : 0 ≤ ds[k]?.getD 0 ∧ ds[k]?.getD 0 < 256 := by
  rcases Nat.lt_or_ge k ds.length with hk | hk
  · rw [List.getElem?_eq_getElem hk]; exact h _ (List.getElem_mem hk)
  · rw [List.getElem?_eq_none hk]; exact ⟨by simp, by simp⟩
/-- The bytes ds lie at A, below block B. -/
def Bys (w : World) (B : Nat) (A : Option Addr) (ds : List Int) : Prop :=
  0 < ds.length → ∃ b o, A = some ⟨b, o, none⟩ ∧ b < B ∧ ∀ k, k < ds.length → w.cell? ⟨b, o + k, none⟩ = some (.int .u8 (ds[k]?.getD 0))
section
variable {w w' : World} {B B' : Nat} {A : Option Addr} {ds : List Int}
theorem Bys.nil_ : Bys w B A [] := fun h => absurd h (by simp)
theorem Bys.keep (h : Bys w B A ds) (hk : ∀ p : Addr, p.block < B → w'.cell? p = w.cell? p) : Bys w' B A ds := fun hn => by
  obtain ⟨b, o, e, hb, hc⟩ := h hn
  exact ⟨b, o, e, hb, fun k hl => (hk _ hb).trans (hc k hl)⟩
theorem Bys.more (h : Bys w B A ds) (hB : B ≤ B') : Bys w B' A ds := fun hn => by
  obtain ⟨b, o, e, hb, hc⟩ := h hn
  exact ⟨b, o, e, by omega, hc⟩
theorem Bys.below (h : Bys w B A ds) (hb : Below B w w') : Bys w' B A ds := h.keep fun _ hp => hb.cell hp
theorem Bys.below' (h : Bys w B A ds) (hb : Below B' w w') (hB : B ≤ B') : Bys w' B A ds := h.keep fun _ hp => hb.cell (by omega)
theorem Bys.alloc (h : Bys w B A ds) (hB : B ≤ w.heap.size) (o : Obj) : Bys (w.alloc o) B A ds := h.keep fun _p hp => World.cell?_of_block (Below.heap_alloc w o _ (Nat.lt_of_lt_of_le hp hB))
theorem Bys.drew (h : Bys w B A ds) : Bys w.drew B A ds := h
theorem Bys.drewN (h : Bys w B A ds) (n : Nat) : Bys (w.drewN n) B A ds := h
theorem Bys.setCell (h : Bys w B A ds) {p : Addr} (hB : B ≤ p.block) (u : Value) : Bys (w.setCell p u) B A ds :=
  h.keep fun q hq => World.cell?_setCell_other w p q u (fun e => by subst e; omega)
end
end Go.Proofs.YtnkklmbmodkogaaDoor

/-! Len -/
namespace Go.Proofs.YtnkklmbmodkogaaDoor
open Go.RowKit

set_option maxHeartbeats 400000 in
theorem length_any (xs : List Int) (w : World) (h8 : xs.length = 8) :
    Calls Tryd.prog 43 #[.agg (mag xs)] w fun e w' => e = .returned (.int .i64 (top xs)) ∧ Below w.heap.size w w' := by
  have hb := Box.new w 56 xs
  have hW := Lib.hid (Below.alloc (Below.refl w.heap.size w) (Nat.le_refl _) (.cells (mag xs) 56))
  have hcell : ∀ k, k < 8 → (w.alloc (.cells (mag xs) 56)).cell? ⟨w.heap.size, k, none⟩ = some (.int .u64 (xs[k]?.getD 0)) := fun k hk => hb.cell k (by omega)
  have ht := top_le xs
  go_enter Tryd.func43, Tryd.ntmps43
  go_wp2
  go_loop [3] (fun n => ∃ k : Nat, k ≤ 8 ∧ top xs ≤ k ∧ n = .int .i64 k) (fun n => (intOf n).toNat)
  case atStart => exact ⟨8, by omega, by omega, rfl⟩
  case round =>
    obtain ⟨k, hk, htk, rfl⟩ := hrel
    by_cases h0 : 0 < k
    · have hc := hcell (k - 1) (by omega)
      by_cases hx : xs[k - 1]?.getD 0 = 0
      · have hB : (xs[k - 1]?.getD 0 == 0) = true := by simpa using hx
        have hlt : top xs < k := by
          rcases Nat.lt_or_ge (top xs) k with h | h
          · exact h
          · exact absurd hx (by have : top xs = k := by omega
                                rw [← this]; exact top_ne xs (by omega))
        clear hcell
        have hX := Lib.hid hx
        clear hx
        go_wp2
        go_round
        case rel => exact ⟨k - 1, by omega, by omega, by go_num⟩
        case measure => simp [intOf]; omega
      · have hB : (xs[k - 1]?.getD 0 == 0) = false := by simpa using hx
        have hE := Lib.hid (top_unique xs k (fun _ => hx) (fun j hj => top_zero xs j (by omega)))
        clear hcell hx
        go_wp2
        go_ret
        exact ⟨ret_i (by rw [hE.out]), hW.out⟩
    · have hE : k = 0 := by omega
      have hT : top xs = k := by omega
      have hT := Lib.hid hT
      clear hcell hE
      go_wp2
      go_ret
      exact ⟨ret_i (by first | rfl | rw [hT.out]), hW.out⟩


theorem equalIn_mag8 (dd : Nat) (a b c d e f g h a' b' c' d' e' f' g' h' : Int) (w : World) :
    (Op.equalIn (dd + 2) 56 (.agg #[.int .u64 a, .int .u64 b, .int .u64 c, .int .u64 d, .int .u64 e, .int .u64 f, .int .u64 g, .int .u64 h]) (.agg #[.int .u64 a', .int .u64 b', .int .u64 c', .int .u64 d', .int .u64 e', .int .u64 f', .int .u64 g', .int .u64 h'])).run Tryd.prog w = .ok (a == a' && (b == b' && (c == c' && (d == d' && (e == e' && (f == f' && (g == g' && h == h'))))))) w := by
  have hi : ∀ (x y : Int), (Op.equalIn (dd + 1) 54 (.int .u64 x) (.int .u64 y)).run Tryd.prog w = .ok (x == y) w := fun x y => run_equalIn_int w dd 54 .u64 .u64 x y Tryd.underlying54
  rw [show dd + 2 = (dd + 1) + 1 from rfl, Op.equalIn]
  simp only [Sem.run_bind, run_underlying Tryd.underlying56, Result.andThen_ok, Std.Legacy.Range.forIn_eq_forIn_range', Tryd.sizeOf54]
  simp [part, go_sem, List.range', Std.Legacy.Range.size]
  by_cases e1 : a = a' <;> by_cases e2 : b = b' <;> by_cases e3 : c = c' <;> by_cases e4 : d = d' <;> (try simp [e1, e2, e3, e4])
  by_cases e5 : e = e' <;> by_cases e6 : f = f' <;> by_cases e7 : g = g' <;> by_cases e8 : h = h' <;> simp [e5, e6, e7, e8]
theorem eql_mag8 (a b c d e f g h a' b' c' d' e' f' g' h' : Int) (w : World) :
    (binOp .eql 56 (.agg #[.int .u64 a, .int .u64 b, .int .u64 c, .int .u64 d, .int .u64 e, .int .u64 f, .int .u64 g, .int .u64 h]) (.agg #[.int .u64 a', .int .u64 b', .int .u64 c', .int .u64 d', .int .u64 e', .int .u64 f', .int .u64 g', .int .u64 h'])).run Tryd.prog w = .ok (.bool ([a, b, c, d, e, f, g, h] == [a', b', c', d', e', f', g', h'])) w := by
  rw [run_eql_struct, show (10000 : Nat) = 9998 + 2 from rfl, equalIn_mag8]
  simp [Result.andThen]

set_option maxHeartbeats 400000 in
theorem isZero_any (xs : List Int) (w : World) (h8 : xs.length = 8) :
    Calls Tryd.prog 57 #[.agg (mag xs)] w fun e w' => e = .returned (.bool (xs == [0, 0, 0, 0, 0, 0, 0, 0])) ∧ Below w.heap.size w w' := by
  obtain ⟨a, b, c, d, e, f, g, h, rfl⟩ := list8 h8
  simp only [mag, List.map]
  have hW := Lib.hid (Below.alloc (Below.refl w.heap.size w) (Nat.le_refl _) (.cells #[.int .u64 a, .int .u64 b, .int .u64 c, .int .u64 d, .int .u64 e, .int .u64 f, .int .u64 g, .int .u64 h] 56))
  have he := eql_mag8 a b c d e f g h 0 0 0 0 0 0 0 0
  generalize ([a, b, c, d, e, f, g, h] == [0, 0, 0, 0, 0, 0, 0, 0]) = r at *
  clear h8
  go_enter Tryd.func57, Tryd.ntmps57
  go_wp2
  go_ret
  exact ⟨rfl, hW.out⟩
end Go.Proofs.YtnkklmbmodkogaaDoor

/-! N1 -/
namespace Go.Proofs.YtnkklmbmodkogaaDoor
open Go.RowKit

theorem ma_eq (p a b : Int) (h0 : 0 ≤ p) (h1 : p ≤ 18446744073709551615 * 18446744073709551615) (ha : Word a) (hb : Word b) :
    (hi64 p + hi64 (lo64 p + a) + hi64 (lo64 (lo64 p + a) + b) = hi64 (p + a + b) ∧ lo64 (lo64 (lo64 p + a) + b) = lo64 (p + a + b)) ∧
    0 ≤ hi64 p + hi64 (lo64 p + a) ∧ hi64 p + hi64 (lo64 p + a) ≤ 18446744073709551615 ∧ 0 ≤ hi64 p + hi64 (lo64 p + a) + hi64 (lo64 (lo64 p + a) + b) ∧ hi64 p + hi64 (lo64 p + a) + hi64 (lo64 (lo64 p + a) + b) ≤ 18446744073709551615 := by
  obtain ⟨_, _⟩ := ha; obtain ⟨_, _⟩ := hb
  unfold hi64 lo64; omega

set_option maxRecDepth 100000 in
set_option maxHeartbeats 400000 in
theorem mulAdd_any (x y a b : Int) (w : World) (hx : Word x) (hy : Word y) (ha : Word a) (hb : Word b) :
    Calls Tryd.prog 73 #[.int .u64 x, .int .u64 y, .int .u64 a, .int .u64 b] w fun e w' => e = .returned (.tuple #[.int .u64 (hi64 (x * y + a + b)), .int .u64 (lo64 (x * y + a + b))]) ∧ w = w' := by
  obtain ⟨p0, p1⟩ := mul_bound x y hx hy
  obtain ⟨e1, q2, q3, q4, q5⟩ := ma_eq (x * y) a b p0 p1 ha hb
  have E1 := Lib.hid e1
  have H := mul64 x y hx hy w
  obtain ⟨a0, a1⟩ := ha
  obtain ⟨b0, b1⟩ := hb
  clear hx hy e1
  generalize x * y = p at *
  have q0 := (lo64_word p).1
  have q1 := (lo64_word (lo64 p + a)).1
  go_enter Tryd.func73, Tryd.ntmps73
  go_wp2_with fail
  refine H.mono ?_
  rintro e w' ⟨rfl, rfl⟩
  clear H p0 p1
  go_wp2_with (first | simp only [add64_0 (lo64 p) a q0 a0] | simp only [add64_0 _ b q1 b0] | fail)
  go_ret2
  exact ⟨ret_ii E1.out.1 E1.out.2, rfl⟩
end Go.Proofs.YtnkklmbmodkogaaDoor

/-! Num -/
namespace Go.Proofs.YtnkklmbmodkogaaDoor
open Go.RowKit

/-- Byte k, limb k of v. -/
def byt (v k : Nat) : Int := ((v / 256 ^ k % 256 : Nat) : Int)
def limb (v k : Nat) : Int := ((v / 18446744073709551616 ^ k % 18446744073709551616 : Nat) : Int)
theorem byt_b (v k : Nat) : 0 ≤ byt v k ∧ byt v k < 256 := by unfold byt; omega
theorem limb_w (v k : Nat) : Word (limb v k) := by unfold limb Word; omega
def lm (v : Nat) : List Int := (List.range 8).map (limb v)
def le (v n : Nat) : List Int := (List.range n).map (byt v)
def be (v n : Nat) : List Int := (List.range n).map (fun j => byt v (n - 1 - j))
@[simp] theorem lm_len (v : Nat) : (lm v).length = 8 := by simp [lm]
@[simp] theorem le_len (v n : Nat) : (le v n).length = n := by simp [le]
@[simp] theorem be_len (v n : Nat) : (be v n).length = n := by simp [be]
theorem lm_get (v k : Nat) (h : k < 8) : (lm v)[k]?.getD 0 = limb v k := by simp [lm, h]
theorem le_get (v n k : Nat) (h : k < n) : (le v n)[k]?.getD 0 = byt v k := by simp [le, h]
theorem be_get (v n k : Nat) (h : k < n) : (be v n)[k]?.getD 0 = byt v (n - 1 - k) := by simp [be, h]
theorem lm_words (v : Nat) : Words (lm v) := by
  intro x hx
  simp only [lm, List.mem_map] at hx
  obtain ⟨j, _, rfl⟩ := hx
  exact limb_w v j
theorem le_bytes (v n : Nat) : Bytes (le v n) := by
  intro x hx
  simp only [le, List.mem_map] at hx
  obtain ⟨j, _, rfl⟩ := hx
  exact byt_b v j
theorem be_bytes (v n : Nat) : Bytes (be v n) := by
  intro x hx
  simp only [be, List.mem_map] at hx
  obtain ⟨j, _, rfl⟩ := hx
  exact byt_b v _
theorem le_succ (v n : Nat) : le v (n + 1) = le v n ++ [byt v n] := by simp [le, List.range_succ]
theorem be_rev (v n : Nat) : be v n = (le v n).reverse := by
  apply List.ext_getElem
  · simp
  · intro k h1 h2
    simp only [be_len] at h1
    simp [be, le]
theorem ext8 {xs ys : List Int} (hx : xs.length = 8) (hy : ys.length = 8) (h : ∀ k, k < 8 → xs[k]?.getD 0 = ys[k]?.getD 0) : xs = ys := by
  apply List.ext_getElem
  · omega
  · intro k h1 h2
    have := h k (by omega)
    simpa [h1, h2] using this

/-- Powers -/
theorem W8 (k : Nat) : (18446744073709551616 : Nat) ^ k = 256 ^ (8 * k) := by rw [Nat.pow_mul]
theorem pow_pos' (b k : Nat) (h : 0 < b) : 0 < b ^ k := Nat.pow_pos h
theorem div_pow_succ (v b k : Nat) : v / b ^ (k + 1) = v / b ^ k / b := by rw [Nat.pow_succ, Nat.div_div_eq_div_mul]
theorem mod_pow_succ' (v b k : Nat) : v % b ^ (k + 1) = v % b ^ k + b ^ k * (v / b ^ k % b) := Nat.mod_pow_succ
theorem byt_zero (v k : Nat) (h : v < 256 ^ k) : byt v k = 0 := by unfold byt; rw [Nat.div_eq_of_lt h]; rfl
theorem limb_zero (v k : Nat) (h : v < 18446744073709551616 ^ k) : limb v k = 0 := by unfold limb; rw [Nat.div_eq_of_lt h]; rfl

/-- The value of limbs. -/
theorem lm_inj {u v : Nat} (hu : u < 18446744073709551616 ^ 8) (hv : v < 18446744073709551616 ^ 8) (h : ∀ k, k < 8 → limb u k = limb v k) : u = v := by
  have key : ∀ k, k ≤ 8 → u % 18446744073709551616 ^ k = v % 18446744073709551616 ^ k := by
    intro k
    induction k with
    | zero => intro _; rw [Nat.pow_zero, Nat.mod_one, Nat.mod_one]
    | succ k ih =>
      intro hk
      have e := h k (by omega)
      unfold limb at e
      rw [mod_pow_succ', mod_pow_succ', ih (by omega), Int.ofNat_inj.1 e]
  have := key 8 (by omega)
  rwa [Nat.mod_eq_of_lt hu, Nat.mod_eq_of_lt hv] at this
theorem lm_zero : lm 0 = [0, 0, 0, 0, 0, 0, 0, 0] := by
  have : ∀ k, limb 0 k = 0 := fun k => by unfold limb; simp
  simp [lm, List.range_succ, this]
theorem lm_isZero (v : Nat) (hv : v < 18446744073709551616 ^ 8) : (lm v == [0, 0, 0, 0, 0, 0, 0, 0]) = decide (v = 0) := by
  rw [← lm_zero]
  by_cases h : v = 0
  · subst h; simp
  · simp only [h, decide_false, beq_eq_false_iff_ne]
    intro e
    refine h (lm_inj hv (by decide) fun k hk => ?_)
    rw [← lm_get v k hk, ← lm_get 0 k hk, e]

/-- How many bytes, how many limbs. -/
def blen (v : Nat) : Nat := if v = 0 then 0 else Nat.log2 v / 8 + 1
theorem blen_hi (v : Nat) : v < 256 ^ blen v := by
  unfold blen
  split
  · subst v; decide
  · have h1 : v < 2 ^ (v.log2 + 1) := Nat.lt_log2_self
    refine Nat.lt_of_lt_of_le h1 ?_
    rw [show (256 : Nat) = 2 ^ 8 from rfl, ← Nat.pow_mul]
    exact Nat.pow_le_pow_right (by omega) (by omega)
theorem blen_lo (v : Nat) (h : 0 < blen v) : 256 ^ (blen v - 1) ≤ v := by
  unfold blen at h ⊢
  split at h
  · omega
  · rename_i hv
    rw [if_neg hv]
    refine Nat.le_trans ?_ (Nat.log2_self_le hv)
    rw [show (256 : Nat) = 2 ^ 8 from rfl, ← Nat.pow_mul]
    exact Nat.pow_le_pow_right (by omega) (by omega)
theorem blen_unique (v n : Nat) (hhi : v < 256 ^ n) (hlo : 0 < n → 256 ^ (n - 1) ≤ v) : n = blen v := by
  have a := blen_hi v
  rcases Nat.lt_trichotomy n (blen v) with h | h | h
  · have b := blen_lo v (by omega)
    have : 256 ^ n ≤ 256 ^ (blen v - 1) := Nat.pow_le_pow_right (by omega) (by omega)
    omega
  · exact h
  · have b := hlo (by omega)
    have : 256 ^ (blen v) ≤ 256 ^ (n - 1) := Nat.pow_le_pow_right (by omega) (by omega)
    omega
theorem blen_zero : blen 0 = 0 := by simp [blen]
theorem blen_pos {v : Nat} (h : 0 < v) : 0 < blen v := by unfold blen; rw [if_neg (by omega)]; omega
theorem blen_eq_zero {v : Nat} : blen v = 0 ↔ v = 0 := ⟨fun h => by have := blen_hi v; rw [h] at this; omega, fun h => by subst h; exact blen_zero⟩
theorem blen_le {v n : Nat} (h : v < 256 ^ n) : blen v ≤ n := by
  rcases Nat.lt_or_ge n (blen v) with hl | hl
  · have b := blen_lo v (by omega)
    have : 256 ^ n ≤ 256 ^ (blen v - 1) := Nat.pow_le_pow_right (by omega) (by omega)
    omega
  · exact hl
theorem lt_of_blen {v n : Nat} (h : blen v ≤ n) : v < 256 ^ n := Nat.lt_of_lt_of_le (blen_hi v) (Nat.pow_le_pow_right (by omega) h)
/-- The most significant byte is not 0. -/
theorem byt_top (v : Nat) (h : 0 < blen v) : byt v (blen v - 1) ≠ 0 := by
  have a := blen_hi v
  have b := blen_lo v h
  have e : (256 : Nat) ^ blen v = 256 ^ (blen v - 1) * 256 := by rw [← Nat.pow_succ]; congr 1; omega
  rw [e] at a
  unfold byt
  have h1 : v / 256 ^ (blen v - 1) < 256 := Nat.div_lt_of_lt_mul a
  have h2 : 0 < v / 256 ^ (blen v - 1) := Nat.div_pos b (Nat.pow_pos (by omega))
  omega
/-- A number is given by bytes. -/
theorem le_surj (ds : List Int) (h : Bytes ds) : ∃ v, v < 256 ^ ds.length ∧ ds = le v ds.length := by
  induction ds with
  | nil => exact ⟨0, by simp, by simp [le]⟩
  | cons d ds ih =>
    obtain ⟨v, hv, e⟩ := ih (fun x hx => h x (List.mem_cons_of_mem _ hx))
    obtain ⟨d0, d1⟩ := h d (List.mem_cons_self ..)
    obtain ⟨d, rfl⟩ := Int.eq_ofNat_of_zero_le d0
    have hd : d < 256 := by omega
    refine ⟨d + 256 * v, ?_, ?_⟩
    · rw [List.length_cons, Nat.pow_succ]; omega
    · apply List.ext_getElem
      · simp
      · intro k h1 h2
        cases k with
        | zero => simp [le, byt]; omega
        | succ k =>
          simp only [List.length_cons] at h1
          have hk : k < ds.length := by omega
          have e2 : ds[k] = byt v k := by
            have := congrArg (fun l => l[k]?.getD 0) e
            simp only [le_get v _ k hk] at this
            simpa [hk] using this
          simp only [List.getElem_cons_succ, e2]
          simp only [le, List.length_cons, List.getElem_map, List.getElem_range]
          unfold byt
          have : (d + 256 * v) / 256 ^ (k + 1) = v / 256 ^ k := by
            rw [show (256 : Nat) ^ (k + 1) = 256 * 256 ^ k from by rw [Nat.pow_succ, Nat.mul_comm], ← Nat.div_div_eq_div_mul, show (d + 256 * v) / 256 = v from by omega]
          rw [this]
theorem be_surj (ds : List Int) (h : Bytes ds) : ∃ v, v < 256 ^ ds.length ∧ ds = be v ds.length := by
  obtain ⟨v, hv, e⟩ := le_surj ds.reverse (fun x hx => h x (by simpa using hx))
  simp only [List.length_reverse] at hv e
  exact ⟨v, hv, by rw [be_rev, ← e, List.reverse_reverse]⟩
/-- The bytes without leading zeros are those of the value. -/
theorem be_canon {v n : Nat} (hv : v < 256 ^ n) (h0 : 0 < n → (be v n)[0]?.getD 0 ≠ 0) : n = blen v := by
  refine blen_unique v n hv fun hn => ?_
  have := h0 hn
  rw [be_get v n 0 hn] at this
  rcases Nat.lt_or_ge v (256 ^ (n - 1)) with h | h
  · exact absurd (byt_zero v (n - 1 - 0) h) this
  · exact h

/-- Comparison of natural numbers as Go's -1, 0, 1. -/
def cmpN (u v : Nat) : Int := if u < v then -1 else if v < u then 1 else 0
theorem blen_mono {u v : Nat} (h : blen u < blen v) : u < v := by
  have a := blen_hi u
  have b := blen_lo v (by omega)
  have : 256 ^ blen u ≤ 256 ^ (blen v - 1) := Nat.pow_le_pow_right (by omega) (by omega)
  omega
theorem cmpN_lt {u v : Nat} (h : u < v) : cmpN u v = -1 := by simp [cmpN, h]
theorem cmpN_gt {u v : Nat} (h : v < u) : cmpN u v = 1 := by unfold cmpN; rw [if_neg (by omega), if_pos h]
theorem cmpN_eq {u v : Nat} (h : u = v) : cmpN u v = 0 := by subst h; simp [cmpN]
/-- Equal above digit k. -/
theorem high_step {u v b k : Nat} (h : u / b ^ (k + 1) = v / b ^ (k + 1)) (e : u / b ^ k % b = v / b ^ k % b) : u / b ^ k = v / b ^ k := by
  rw [div_pow_succ, div_pow_succ] at h
  rw [← Nat.div_add_mod (u / b ^ k) b, ← Nat.div_add_mod (v / b ^ k) b, h, e]
theorem high_lt {u v b k : Nat} (h : u / b ^ (k + 1) = v / b ^ (k + 1)) (e : u / b ^ k % b < v / b ^ k % b) : u < v := by
  rw [div_pow_succ, div_pow_succ] at h
  have h1 : u / b ^ k < v / b ^ k := by
    rw [← Nat.div_add_mod (u / b ^ k) b, ← Nat.div_add_mod (v / b ^ k) b, h]; omega
  rcases Nat.lt_or_ge u v with hl | hl
  · exact hl
  · have := Nat.div_le_div_right (c := b ^ k) hl; omega
theorem byt_high_step {u v k : Nat} (h : u / 256 ^ (k + 1) = v / 256 ^ (k + 1)) (e : byt u k = byt v k) : u / 256 ^ k = v / 256 ^ k :=
  high_step h (Int.ofNat_inj.1 e)
theorem byt_high_lt {u v k : Nat} (h : u / 256 ^ (k + 1) = v / 256 ^ (k + 1)) (e : byt u k < byt v k) : u < v :=
  high_lt h (by unfold byt at e; omega)
theorem high_top {u v n : Nat} (hu : u < 256 ^ n) (hv : v < 256 ^ n) : u / 256 ^ n = v / 256 ^ n := by rw [Nat.div_eq_of_lt hu, Nat.div_eq_of_lt hv]

/-- The carry into digit k of u + v, and what it does (base 256). -/
def car (u v k : Nat) : Int := (((u % 256 ^ k + v % 256 ^ k) / 256 ^ k : Nat) : Int)
theorem car_b (u v k : Nat) : 0 ≤ car u v k ∧ car u v k ≤ 1 := by
  have hp : 0 < 256 ^ k := Nat.pow_pos (by omega)
  have h1 := Nat.mod_lt u hp
  have h2 := Nat.mod_lt v hp
  have : (u % 256 ^ k + v % 256 ^ k) / 256 ^ k ≤ 1 := by
    have : (u % 256 ^ k + v % 256 ^ k) / 256 ^ k < 2 := Nat.div_lt_of_lt_mul (by omega)
    omega
  unfold car; exact ⟨Int.natCast_nonneg _, Int.ofNat_le.2 this⟩
theorem car_zero (u v : Nat) : car u v 0 = 0 := by unfold car; simp [Nat.mod_one]
theorem add_digit (u v b k : Nat) (hb : 0 < b) : (u + v) / b ^ k = u / b ^ k + v / b ^ k + (u % b ^ k + v % b ^ k) / b ^ k := by
  have hp : 0 < b ^ k := Nat.pow_pos hb
  have h1 := Nat.div_add_mod u (b ^ k)
  have h2 := Nat.div_add_mod v (b ^ k)
  have : u + v = b ^ k * (u / b ^ k + v / b ^ k) + (u % b ^ k + v % b ^ k) := by rw [Nat.mul_add]; omega
  rw [this, Nat.mul_add_div hp]
theorem add_carry (u v b k : Nat) (hb : 0 < b) : (u % b ^ (k + 1) + v % b ^ (k + 1)) / b ^ (k + 1) = (u / b ^ k % b + v / b ^ k % b + (u % b ^ k + v % b ^ k) / b ^ k) / b := by
  have hp : 0 < b ^ k := Nat.pow_pos hb
  rw [mod_pow_succ', mod_pow_succ', Nat.pow_succ, ← Nat.div_div_eq_div_mul]
  congr 1
  have : u % b ^ k + b ^ k * (u / b ^ k % b) + (v % b ^ k + b ^ k * (v / b ^ k % b)) = b ^ k * (u / b ^ k % b + v / b ^ k % b) + (u % b ^ k + v % b ^ k) := by rw [Nat.mul_add]; omega
  rw [this, Nat.mul_add_div hp]
theorem plus_step (u v k : Nat) : (car u v k + byt u k + byt v k) % 256 = byt (u + v) k ∧ (car u v k + byt u k + byt v k) / 256 = car u v (k + 1) := by
  unfold car byt
  rw [add_digit u v 256 k (by omega), add_carry u v 256 k (by omega)]
  omega
theorem car_end {u v n m k : Nat} (hu : u < 256 ^ n) (hv : v < 256 ^ m) (hn : n ≤ k) (hm : m ≤ k) (h : car u v k = 0) : u + v < 256 ^ k := by
  have h1 : u < 256 ^ k := Nat.lt_of_lt_of_le hu (Nat.pow_le_pow_right (by omega) hn)
  have h2 : v < 256 ^ k := Nat.lt_of_lt_of_le hv (Nat.pow_le_pow_right (by omega) hm)
  unfold car at h
  rw [Nat.mod_eq_of_lt h1, Nat.mod_eq_of_lt h2] at h
  have h3 : (u + v) / 256 ^ k = 0 := by omega
  rcases Nat.lt_or_ge (u + v) (256 ^ k) with hl | hl
  · exact hl
  · have := Nat.div_pos hl (Nat.pow_pos (by omega)); omega
theorem car_last {u v n m k : Nat} (hu : u < 256 ^ n) (hv : v < 256 ^ m) (hn : n + 1 ≤ k) (hm : m + 1 ≤ k) : car u v k = 0 := by
  have h1 : u < 256 ^ (k - 1) := Nat.lt_of_lt_of_le hu (Nat.pow_le_pow_right (by omega) (by omega))
  have h2 : v < 256 ^ (k - 1) := Nat.lt_of_lt_of_le hv (Nat.pow_le_pow_right (by omega) (by omega))
  have e : (256 : Nat) ^ k = 256 ^ (k - 1) * 256 := by rw [← Nat.pow_succ]; congr 1; omega
  have h3 : u < 256 ^ k := by omega
  have h4 : v < 256 ^ k := by omega
  unfold car
  rw [Nat.mod_eq_of_lt h3, Nat.mod_eq_of_lt h4, Nat.div_eq_of_lt (by omega)]
  rfl

/-- The borrow out of the lower k digits of u - v. -/
def borN (b u v k : Nat) : Nat := if u % b ^ k < v % b ^ k then 1 else 0
theorem borN_01 (b u v k : Nat) : borN b u v k ≤ 1 := by unfold borN; split <;> omega
theorem borN_zero (b u v : Nat) : borN b u v 0 = 0 := by unfold borN; simp [Nat.mod_one]
theorem lex_lt {B r r' x y : Nat} (hr : r < B) (hr' : r' < B) : r + B * x < r' + B * y ↔ x < y + (if r < r' then 1 else 0) := by
  rcases Nat.lt_trichotomy x y with h | h | h
  · have : B * (x + 1) ≤ B * y := Nat.mul_le_mul_left B h
    rw [Nat.mul_add] at this
    constructor
    · intro _; split <;> omega
    · intro _; omega
  · subst h
    constructor
    · intro hh; rw [if_pos (by omega)]; omega
    · intro hh; split at hh <;> omega
  · have : B * (y + 1) ≤ B * x := Nat.mul_le_mul_left B h
    rw [Nat.mul_add] at this
    constructor
    · intro _; omega
    · intro hh; split at hh <;> omega
theorem borN_succ (b u v k : Nat) (hb : 0 < b) : borN b u v (k + 1) = if u / b ^ k % b < v / b ^ k % b + borN b u v k then 1 else 0 := by
  have hp : 0 < b ^ k := Nat.pow_pos hb
  have := lex_lt (x := u / b ^ k % b) (y := v / b ^ k % b) (Nat.mod_lt u hp) (Nat.mod_lt v hp)
  unfold borN
  rw [mod_pow_succ', mod_pow_succ']
  by_cases h : u % b ^ k + b ^ k * (u / b ^ k % b) < v % b ^ k + b ^ k * (v / b ^ k % b)
  · rw [if_pos h, if_pos (this.1 h)]
  · rw [if_neg h, if_neg (fun h' => h (this.2 h'))]
theorem sub_aux1 (P qv ru rv d u v : Nat) (hu : P * (qv + 1 + d) + ru = u) (hv : P * qv + rv = v) (hr : rv < P) : u - v = P * d + (P + ru - rv) := by
  subst hu; subst hv
  rw [Nat.mul_add, Nat.mul_add, Nat.mul_one]
  generalize P * qv = X
  generalize P * d = Y
  omega
theorem sub_aux2 (P qv ru rv d u v : Nat) (hu : P * (qv + d) + ru = u) (hv : P * qv + rv = v) (hr : rv ≤ ru) : u - v = P * d + (ru - rv) := by
  subst hu; subst hv
  rw [Nat.mul_add]
  generalize P * qv = X
  generalize P * d = Y
  omega
theorem sub_digit (u v b k : Nat) (hb : 0 < b) (h : v ≤ u) : v / b ^ k + borN b u v k ≤ u / b ^ k ∧ (u - v) / b ^ k = u / b ^ k - v / b ^ k - borN b u v k := by
  have hp : 0 < b ^ k := Nat.pow_pos hb
  have h1 := Nat.div_add_mod u (b ^ k)
  have h2 := Nat.div_add_mod v (b ^ k)
  have r1 := Nat.mod_lt u hp
  have r2 := Nat.mod_lt v hp
  have hq : v / b ^ k ≤ u / b ^ k := Nat.div_le_div_right h
  unfold borN
  split
  · rename_i hlt
    have hq' : v / b ^ k + 1 ≤ u / b ^ k := by
      rcases Nat.lt_or_ge (v / b ^ k) (u / b ^ k) with hl | hl
      · exact hl
      · have : u / b ^ k = v / b ^ k := by omega
        rw [this] at h1; omega
    refine ⟨hq', ?_⟩
    obtain ⟨d, hd⟩ : ∃ d, u / b ^ k = v / b ^ k + 1 + d := ⟨u / b ^ k - v / b ^ k - 1, by omega⟩
    have := sub_aux1 (b ^ k) (v / b ^ k) (u % b ^ k) (v % b ^ k) d u v (by rw [← hd]; exact h1) h2 r2
    rw [this, Nat.mul_add_div hp, Nat.div_eq_of_lt (by omega)]
    omega
  · refine ⟨by omega, ?_⟩
    obtain ⟨d, hd⟩ : ∃ d, u / b ^ k = v / b ^ k + d := ⟨u / b ^ k - v / b ^ k, by omega⟩
    have := sub_aux2 (b ^ k) (v / b ^ k) (u % b ^ k) (v % b ^ k) d u v (by rw [← hd]; exact h1) h2 (by omega)
    rw [this, Nat.mul_add_div hp, Nat.div_eq_of_lt (Nat.lt_of_le_of_lt (Nat.sub_le _ _) r1)]
    omega
/-- Base 256, over Int. -/
def bo (u v k : Nat) : Int := ((borN 256 u v k : Nat) : Int)
theorem bo_b (u v k : Nat) : 0 ≤ bo u v k ∧ bo u v k ≤ 1 := by have := borN_01 256 u v k; unfold bo; omega
theorem minus_step (u v k : Nat) (h : v ≤ u) :
    (byt u k - bo u v k - byt v k < 0 → byt u k - bo u v k - byt v k + 256 = byt (u - v) k ∧ bo u v (k + 1) = 1) ∧
    (¬ byt u k - bo u v k - byt v k < 0 → byt u k - bo u v k - byt v k = byt (u - v) k ∧ bo u v (k + 1) = 0) := by
  obtain ⟨h1, h2⟩ := sub_digit u v 256 k (by omega) h
  have h3 := borN_01 256 u v k
  unfold byt bo
  rw [h2, borN_succ 256 u v k (by omega)]
  constructor
  · intro hh; rw [if_pos (by omega)]; omega
  · intro hh; rw [if_neg (by omega)]; omega

/-- One digit is set. -/
theorem byt_add_ge (X y j k : Nat) (h : j < k) (hX : X / 256 ^ j % 256 = 0) (hy : y < 256) : byt (X + y * 256 ^ j) k = byt X k := by
  have hp : 0 < 256 ^ j := Nat.pow_pos (by omega)
  obtain ⟨d, rfl⟩ : ∃ d, k = j + 1 + d := ⟨k - j - 1, by omega⟩
  have e : ∀ Z : Nat, Z / 256 ^ (j + 1 + d) = Z / 256 ^ j / 256 / 256 ^ d := fun Z => by rw [Nat.pow_add, Nat.pow_succ, ← Nat.div_div_eq_div_mul, ← Nat.div_div_eq_div_mul]
  unfold byt
  rw [e, e, Nat.add_mul_div_right _ _ hp, show (X / 256 ^ j + y) / 256 = X / 256 ^ j / 256 by omega]
theorem byt_add_lt (X y j k : Nat) (h : k < j) : byt (X + y * 256 ^ j) k = byt X k := by
  have hp : 0 < 256 ^ k := Nat.pow_pos (by omega)
  obtain ⟨d, rfl⟩ : ∃ d, j = k + 1 + d := ⟨j - k - 1, by omega⟩
  have e : y * 256 ^ (k + 1 + d) = 256 ^ k * (256 * (y * 256 ^ d)) := by rw [Nat.pow_add, Nat.pow_succ]; ac_rfl
  unfold byt
  rw [e, Nat.add_mul_div_left _ _ hp, Nat.add_mul_mod_self_left]
theorem byt_add_eq (X y j : Nat) (hX : X / 256 ^ j % 256 = 0) (hy : y < 256) : byt (X + y * 256 ^ j) j = (y : Int) := by
  have hp : 0 < 256 ^ j := Nat.pow_pos (by omega)
  unfold byt
  rw [Nat.add_mul_div_right _ _ hp]
  omega
/-- X without its digit j. -/
def hole (X j : Nat) : Nat := X - X / 256 ^ j % 256 * 256 ^ j
theorem hole_le (X j : Nat) : X / 256 ^ j % 256 * 256 ^ j ≤ X := by
  have h1 := Nat.mod_le (X / 256 ^ j) 256
  have h2 := Nat.div_mul_le_self X (256 ^ j)
  exact Nat.le_trans (Nat.mul_le_mul_right _ h1) h2
theorem hole_add (X j : Nat) : hole X j + X / 256 ^ j % 256 * 256 ^ j = X := by have := hole_le X j; unfold hole; omega
theorem hole_zero (X j : Nat) : hole X j / 256 ^ j % 256 = 0 := by
  have hp : 0 < 256 ^ j := Nat.pow_pos (by omega)
  have h := congrArg (· / 256 ^ j) (hole_add X j)
  simp only [Nat.add_mul_div_right _ _ hp] at h
  omega
theorem le_set (X N j y : Nat) (hy : y < 256) : (le X N).set j (y : Int) = le (hole X j + y * 256 ^ j) N := by
  apply List.ext_getElem
  · simp
  · intro k h1 h2
    simp only [List.length_set, le_len] at h1
    have hX := hole_zero X j
    have hb : X / 256 ^ j % 256 < 256 := Nat.mod_lt _ (by omega)
    rw [List.getElem_set]
    simp only [le, List.getElem_map, List.getElem_range]
    split
    · subst j; rw [byt_add_eq _ _ _ hX hy]
    · have hXX : byt X k = byt (hole X j + X / 256 ^ j % 256 * 256 ^ j) k := by rw [hole_add]
      rw [hXX]
      rcases Nat.lt_or_ge k j with h | h
      · rw [byt_add_lt _ _ _ _ h, byt_add_lt _ _ _ _ h]
      · rw [byt_add_ge _ _ _ _ (by omega) hX hb, byt_add_ge _ _ _ _ (by omega) hX hy]

theorem hole_hi (X j y : Nat) (hy : y < 256) : (hole X j + y * 256 ^ j) / 256 ^ (j + 1) = X / 256 ^ (j + 1) := by
  have hp : 0 < 256 ^ j := Nat.pow_pos (by omega)
  have h0 := hole_zero X j
  have hb : X / 256 ^ j % 256 < 256 := Nat.mod_lt _ (by omega)
  have key : ∀ z, z < 256 → (hole X j + z * 256 ^ j) / 256 ^ (j + 1) = hole X j / 256 ^ j / 256 := by
    intro z hz
    rw [div_pow_succ, Nat.add_mul_div_right _ _ hp]
    omega
  rw [key y hy, ← key _ hb, hole_add]
theorem hole_lt {X N j y : Nat} (hX : X < 256 ^ N) (hj : j < N) (hy : y < 256) : hole X j + y * 256 ^ j < 256 ^ N := by
  have hp : 0 < 256 ^ (j + 1) := Nat.pow_pos (by omega)
  have e : (256 : Nat) ^ N = 256 ^ (N - (j + 1)) * 256 ^ (j + 1) := by rw [← Nat.pow_add]; congr 1; omega
  rw [e] at hX ⊢
  rw [← Nat.div_lt_iff_lt_mul hp] at hX ⊢
  rwa [hole_hi X j y hy]
theorem hole_small {X j : Nat} (h : X < 256 ^ j) : hole X j = X := by unfold hole; rw [Nat.div_eq_of_lt h]; simp

/-- The rows of a product: c is the carry, X what stands there. -/
def TimesInv (u v i k X c : Nat) : Prop := X + c * 256 ^ (i + k) = u % 256 ^ i * v + 256 ^ i * (u / 256 ^ i % 256 * (v % 256 ^ k))
theorem times_step {u v i k X c : Nat} (h : TimesInv u v i k X c) :
    TimesInv u v i (k + 1) (hole X (i + k) + (X / 256 ^ (i + k) % 256 + u / 256 ^ i % 256 * (v / 256 ^ k % 256) + c) % 256 * 256 ^ (i + k)) ((X / 256 ^ (i + k) % 256 + u / 256 ^ i % 256 * (v / 256 ^ k % 256) + c) / 256) := by
  unfold TimesInv at h ⊢
  have hh := hole_add X (i + k)
  generalize hole X (i + k) = H at *
  generalize X / 256 ^ (i + k) % 256 = d at *
  rw [mod_pow_succ' v 256 k]
  generalize u / 256 ^ i % 256 = a at *
  generalize v / 256 ^ k % 256 = b at *
  generalize v % 256 ^ k = V at *
  generalize u % 256 ^ i * v = U at *
  rw [show i + (k + 1) = (i + k) + 1 from by omega, Nat.pow_succ]
  have e1 : (d + a * b + c) % 256 * 256 ^ (i + k) + (d + a * b + c) / 256 * (256 ^ (i + k) * 256) = (d + a * b + c) * 256 ^ (i + k) := by
    have := Nat.mod_add_div (d + a * b + c) 256
    calc _ = ((d + a * b + c) % 256 + 256 * ((d + a * b + c) / 256)) * 256 ^ (i + k) := by rw [Nat.add_mul]; ac_rfl
      _ = _ := by rw [this]
  have e2 : 256 ^ i * (a * (V + 256 ^ k * b)) = 256 ^ i * (a * V) + a * b * 256 ^ (i + k) := by
    rw [Nat.pow_add, Nat.mul_add, Nat.mul_add]; ac_rfl
  rw [e2, Nat.add_assoc, e1, ← Nat.add_assoc, ← h, ← hh, Nat.add_mul, Nat.add_mul]
  omega
theorem times_first (u v i : Nat) : TimesInv u v i 0 (u % 256 ^ i * v) 0 := by unfold TimesInv; simp [Nat.mod_one]
theorem times_last {u v i m X c : Nat} (h : TimesInv u v i m X c) (hv : v < 256 ^ m) : X + c * 256 ^ (i + m) = u % 256 ^ (i + 1) * v := by
  unfold TimesInv at h
  rw [h, Nat.mod_eq_of_lt hv, mod_pow_succ', Nat.add_mul]
  ac_rfl
theorem times_bound {_u _v i m X c : Nat} (hX : X < 256 ^ (i + m)) (hc : c < 256) : X + c * 256 ^ (i + m) < 256 ^ (i + 1 + m) := by
  have e : (256 : Nat) ^ (i + 1 + m) = 256 * 256 ^ (i + m) := by rw [show i + 1 + m = (i + m) + 1 from by omega, Nat.pow_succ, Nat.mul_comm]
  have : c * 256 ^ (i + m) ≤ 255 * 256 ^ (i + m) := Nat.mul_le_mul_right _ (by omega)
  omega
theorem times_row_bound {u v i m : Nat} (hv : v < 256 ^ m) : u % 256 ^ i * v < 256 ^ (i + m) := by
  rw [Nat.pow_add]
  exact Nat.mul_lt_mul_of_lt_of_le (Nat.mod_lt _ (Nat.pow_pos (by omega))) (Nat.le_of_lt hv) (Nat.lt_of_le_of_lt (Nat.zero_le _) hv)
theorem le_zero (N : Nat) : le 0 N = List.replicate N 0 := by
  apply List.ext_getElem
  · simp
  · intro k h1 h2; simp [le, byt]
end Go.Proofs.YtnkklmbmodkogaaDoor

/-! Own -/
namespace Go.Proofs.YtnkklmbmodkogaaDoor
open Go.RowKit

theorem infoU8 : (Tryd.prog.info? 5).map (fun i => (i.zero, i.size, i.bytes)) = some (some (.int .u8 0), 1, 1) := by kernel_rfl

/-- v is a slice of the call's own (blocks from B on) that holds the bytes ds. -/
def Own (w : World) (B : Nat) (v : Value) (ds : List Int) : Prop := w.ownsRow B 5 1 v ds.length (ds.map (Value.int .u8))
section
variable {w w' W : World} {B : Nat} {v : Value} {ds : List Int}
theorem Own.nil_ : Own w B (.slice none 0 0) [] := World.ownsRow_nil _ _ _ _
theorem Own.alloc (h : Own w B v ds) (o : Obj) : Own (w.alloc o) B v ds := World.ownsRow.alloc h o
theorem Own.drew (h : Own w B v ds) : Own w.drew B v ds := h
theorem Own.low (h : Own w B v ds) {p : Addr} (hp : p.block < B) (u : Value) : Own (w.setCell p u) B v ds := ownsRow_setCell_below h hp u
theorem Own.less {B' : Nat} (h : Own w B v ds) (hB : B' ≤ B) : Own w B' v ds := by
  refine ⟨h.1, ?_⟩
  rcases h.2 with h2 | ⟨g, cap, cur, e, hb, r⟩
  · exact .inl h2
  · exact .inr ⟨g, cap, cur, e, by omega, r⟩
theorem Own.take {A : Option Addr} {n c m : Nat} (h : Own w B (.slice A n c) ds) (hn : n = ds.length) (hm : m ≤ ds.length) : Own w B (.slice A m c) (ds.take m) := by
  subst hn
  have hl : (ds.take m).length = m := by simp; omega
  refine ⟨by simp, ?_⟩
  rw [hl]
  rcases h.2 with ⟨e, h0⟩ | ⟨g, cap, cur, e, hb, hg, hnc, hmx, hs, ht⟩
  · injection e with e1 _ e3
    subst e1 e3
    have : m = 0 := by omega
    subst this
    exact .inl ⟨rfl, rfl⟩
  · injection e with e1 _ e3
    subst e1 e3
    refine .inr ⟨g, c, cur, rfl, hb, hg, by omega, hmx, hs, ?_⟩
    have h2 := congrArg (List.take m) ht
    rw [List.take_take] at h2
    rw [List.map_take, ← h2]
    congr 1
    omega
/-- What it looks like. -/
theorem Own.form (h : Own w B v ds) : ∃ A c, v = .slice A ds.length c ∧ ds.length ≤ c ∧ c ≤ maxLen ∧ Bys w w.heap.size A ds := by
  rcases h.2 with ⟨rfl, h0⟩ | ⟨g, cap, cur, rfl, hb, hg, hnc, hm, hs, ht⟩
  · have : ds = [] := List.eq_nil_of_length_eq_zero h0
    subst this
    exact ⟨none, 0, rfl, Nat.le_refl _, Nat.zero_le _, Bys.nil_⟩
  · refine ⟨_, cap, rfl, hnc, hm, fun hn => ⟨g, 0, rfl, (Array.getElem?_eq_some_iff.1 hg).1, fun k hk => ?_⟩⟩
    rw [cell_of_row w g (0 + k) cur 5 (0, 0) hg, ← Array.getElem?_toList]
    have h1 : (cur.toList.take (ds.length * 1))[0 + k]? = (ds.map (Value.int .u8))[0 + k]? := by rw [ht]
    rw [List.getElem?_take_of_lt (by omega)] at h1
    rw [h1]
    simp [hk]
end

theorem Own.set_ {w : World} {B g n c j : Nat} {ds : List Int} (h : Own w B (.slice (some ⟨g, 0, none⟩) n c) ds) (y : Int) : Own (w.setCell ⟨g, j, none⟩ (.int .u8 y)) B (.slice (some ⟨g, 0, none⟩) n c) (ds.set j y) := by
  have hn : n = ds.length := by
    rcases h.2 with ⟨e, _⟩ | ⟨_, _, _, e, _⟩
    · simp at e
    · injection e
  subst hn
  have := (World.ownsRow.stored h j (.int .u8 y)).1
  unfold Own
  simpa [List.map_set] using this
theorem Own.cellAt {w : World} {B g n c j : Nat} {ds : List Int} (h : Own w B (.slice (some ⟨g, 0, none⟩) n c) ds) (hj : j < ds.length) : w.cell? ⟨g, j, none⟩ = some (.int .u8 (ds[j]?.getD 0)) := by
  have hn : n = ds.length := by
    rcases h.2 with ⟨e, _⟩ | ⟨_, _, _, e, _⟩
    · simp at e
    · injection e
  subst hn
  rw [World.ownsRow.cellAt h j (by omega)]
  simp [hj]
theorem Own.freeAt {w : World} {B g n c : Nat} {ds : List Int} (h : Own w B (.slice (some ⟨g, 0, none⟩) n c) ds) (j : Nat) : w.frozen? ⟨g, j, none⟩ = false := by
  have hn : n = ds.length := by
    rcases h.2 with ⟨e, _⟩ | ⟨_, _, _, e, _⟩
    · simp at e
    · injection e
  subst hn
  exact World.ownsRow.frozenAt h j
theorem Own.drewN {w : World} {B : Nat} {v : Value} {ds : List Int} (h : Own w B v ds) (n : Nat) : Own (w.drewN n) B v ds := h

/-- make([]byte, n). -/
theorem make1 {ops : Array Oper} {rest : List Oper} {o : Oper} {a : Act} {Q : Exit → Act → World → Prop} {w W : World} {B : Nat}
    (hgd : o.guard = none) (l c : Operand) (T : TypeId) (ho : o.op = Op.makeSlice T l c) (hT : Tryd.prog.underlying T = some (.slice 5)) (n : Nat) (L C : Int)
    (hl : a.eval l = .int .i64 L) (hc : a.eval c = .int .i64 C) (hL : L = (n : Int)) (hC : C = (n : Int)) (hn : n < 1000000000000) (hb : Below B W w) (hB : B ≤ w.heap.size)
    (h : ∀ w', Own w' w.heap.size (.slice (some ⟨w.heap.size, 0, none⟩) n n) (List.replicate n 0) → Below B W w' → w.heap.size < w'.heap.size → wpList Tryd.prog ops Q rest (a.put o.dst (.slice (some ⟨w.heap.size, 0, none⟩) n n)) w') : wpList Tryd.prog ops Q (o :: rest) a w := by
  obtain ⟨i0, hi, hz0, hz1, hz2⟩ := info_parts infoU8
  refine wpList_make_full w hgd l c T ho w.heap.size 5 i0 (.int .u8 0) 1 hT hi hz0 hz1 .i64 .i64 L C n hl hc hL hC (by rw [hz2]; omega) (by unfold maxLen; omega) (Nat.le_refl _) fun w' h1 h2 => h w' ?_ ?_ ?_
  · unfold Own
    have e : (madeCells (Value.cells (.int .u8 0)) (n * 1)).toList = (List.replicate n (0 : Int)).map (Value.int .u8) := by
      rw [Nat.mul_one]
      exact (toList_madeCells_one (.int .u8 0) n).trans (by simp)
    rw [e] at h1
    simpa using h1
  · exact hb.grown h2 hB fun k hk => by cases hk
  · exact (World.ownsRow.lt h1 _ rfl).2
theorem app1 {ops : Array Oper} {rest : List Oper} {o : Oper} {a : Act} {Q : Exit → Act → World → Prop} {w W : World} {B : Nat} {v : Value} {ds : List Int}
    (hgd : o.guard = none) (s x : Operand) (T : TypeId) (ho : o.op = .call { callee := .builtin .append, args := #[s, x], argTypes := #[T, T] }) (hT : Tryd.prog.underlying T = some (.slice 5))
    (hs : a.eval s = v) (hown : Own w B v ds) (hb : Below B W w) (hB : B ≤ w.heap.size) (g : Nat) (y : Int) (hx : a.eval x = .slice (some ⟨g, 0, none⟩) 1 1) (hy : w.cell? ⟨g, 0, none⟩ = some (.int .u8 y))
    (hn : ds.length < 1000000000000) (h : ∀ v' w', Own w' B v' (ds ++ [y]) → Below B W w' → wpList Tryd.prog ops Q rest (a.put o.dst v') w') : wpList Tryd.prog ops Q (o :: rest) a w := by
  obtain ⟨i0, hi, hz0, hz1, hz2⟩ := info_parts infoU8
  refine wpList_append_own w hgd s x T ho B 5 i0 (.int .u8 0) 1 1 hT hi hz0 hz1 hz2 rfl (by decide) v ds.length _ hs hown ⟨g, 0, none⟩ 1 1 [.int .u8 y] hx rfl ?_ ?_ ?_ ?_ hB ?_
  · intro j u hj
    match j, hj with
    | 0, hj => simp at hj; subst hj; simpa [Addr.add] using hy
  · intro u hu; simp at hu; subst hu; rfl
  · unfold maxLen; omega
  · omega
  · intro v' w' h1 h2 _
    refine h v' w' ?_ ?_
    · unfold Own
      simpa using h1
    · exact hb.grown h2 hB fun k hk => (World.ownsRow.lt hown k hk).1
/-- append of one byte inside a region that draws its order. -/
theorem step1 {ops : Array Oper} {o : Oper} {a : Act} {K : Act → World → Prop} {Q : Exit → Act → World → Prop} {E : Prop} {w W : World} {B : Nat} {v : Value} {ds : List Int}
    (hgd : o.guard = none) (s x : Operand) (T : TypeId) (hop : o.op = Op.call { callee := Callee.builtin Builtin.append, args := #[s, x], argTypes := #[T, T] }) (hT : Tryd.prog.underlying T = some (.slice 5))
    (hs : a.eval s = v) (hown : Own w B v ds) (hb : Below B W w) (hB : B ≤ w.heap.size) (g : Nat) (y : Int) (hx : a.eval x = .slice (some ⟨g, 0, none⟩) 1 1) (hy : w.cell? ⟨g, 0, none⟩ = some (.int .u8 y))
    (n : Nat) (hl : n = ds.length) (hn : n < 1000000000000)
    (hK : ∀ g' c' w', Own w' B (.slice (some ⟨g', 0, none⟩) (n + 1) c') (ds ++ [y]) → Below B W w' → K (a.put o.dst (.slice (some ⟨g', 0, none⟩) (n + 1) c')) w') :
    if Region.wanted o (yielded ops a.tmps) = true then Oper.wp Tryd.prog o a w K Q else E := by
  subst hl
  obtain ⟨i0, hi, hz0, hz1, hz2⟩ := info_parts infoU8
  have hw : Region.wanted o (yielded ops a.tmps) = true := by simp [Region.wanted, hgd]
  rw [if_pos hw]
  refine wp_append_own w s x T hop B 5 i0 (.int .u8 0) 1 1 hT hi hz0 hz1 hz2 rfl (by decide) v ds.length _ hs hown ⟨g, 0, none⟩ 1 1 [.int .u8 y] hx rfl ?_ ?_ ?_ ?_ hB ?_
  · intro j u hj
    match j, hj with
    | 0, hj => simp at hj; subst hj; simpa [Addr.add] using hy
  · intro u hu; simp at hu; subst hu; rfl
  · unfold maxLen; omega
  · omega
  · intro v' w' h1 h2 _
    have hO : Own w' B v' (ds ++ [y]) := by unfold Own; simpa using h1
    rcases hO.2 with ⟨_, h0⟩ | ⟨g', c', cur, rfl, _⟩
    · simp at h0
    · have e : (ds ++ [y]).length = ds.length + 1 := by simp
      rw [e] at hO ⊢
      exact hK g' c' w' hO (hb.grown h2 hB fun k hk => (World.ownsRow.lt hown k hk).1)
theorem le_take (v n m : Nat) (h : m ≤ n) : (le v n).take m = le v m := by
  simp only [le, ← List.map_take, List.take_range, Nat.min_eq_left h]
end Go.Proofs.YtnkklmbmodkogaaDoor

/-! R1 -/
namespace Go.Proofs.YtnkklmbmodkogaaDoor
open Go.RowKit

set_option maxHeartbeats 400000 in
theorem trim_any (A : Option Addr) (n c v B : Nat) (w : World) (hr : Bys w B A (le v n)) (hv : v < 256 ^ n) (hc : n ≤ c) (hm : c ≤ maxLen) :
    Calls Tryd.prog 67 #[.slice A n c] w fun e w' => e = .returned (.slice A (blen v) c) ∧ w = w' := by
  have hl := blen_le hv
  unfold maxLen at hm
  clear hv
  go_enter Tryd.func67, Tryd.ntmps67
  go_wp2
  go_loop [0] (fun s => ∃ k : Nat, k ≤ n ∧ blen v ≤ k ∧ s = .slice A k c) (fun s => match s with | .slice _ k _ => k | _ => 0)
  case atStart => exact ⟨n, by omega, hl, rfl⟩
  case round =>
    obtain ⟨k, hk, hbk, rfl⟩ := hrel
    by_cases h0 : 0 < k
    · obtain ⟨b, o, rfl, hbB, hcell⟩ := hr (by simp; omega)
      have hcl : w.cell? ⟨b, o + (k - 1), none⟩ = some (.int .u8 (byt v (k - 1))) := by
        rw [hcell (k - 1) (by simp; omega), le_get v n (k - 1) (by omega)]
      by_cases hz : blen v = k
      · have hne : (byt v (k - 1) == 0) = false := by have := byt_top v (by omega); rw [hz] at this; simpa using this
        clear hcell
        have HZ := Lib.hid hz
        clear hz hr
        go_wp2
        go_ret
        exact ⟨ret_sl HZ.out.symm, rfl⟩
      · have hze : (byt v (k - 1) == 0) = true := by have := byt_zero v (k - 1) (lt_of_blen (by omega)); simpa using this
        clear hcell
        clear hr
        go_wp2
        go_round
        case rel => exact ⟨k - 1, by omega, by omega, rfl⟩
        case measure => simp; omega
    · obtain rfl : k = 0 := by omega
      have hz : blen v = 0 := by omega
      have HZ := Lib.hid hz
      clear hz hr
      go_wp2
      go_ret
      exact ⟨ret_sl HZ.out.symm, rfl⟩

/-- The call returns a slice of its own that holds ds; what was there is as it was. -/
def RetOwn (w : World) (ds : List Int) (e : Ending) (w' : World) : Prop := (∃ x, e = .returned x ∧ Own w' w.heap.size x ds) ∧ Below w.heap.size w w'

theorem kept_cell {B : Nat} {W w : World} (h : Below B W w) {b o : Nat} {v : Value} (hc : W.cell? ⟨b, o, none⟩ = some v) (hb : b < B) : w.cell? ⟨b, o, none⟩ = some v := (h.cell (p := ⟨b, o, none⟩) hb).trans hc
theorem kept_free {B : Nat} {W w : World} (h : Below B W w) {b o : Nat} (hc : W.frozen? ⟨b, o, none⟩ = false) (hb : b < B) : w.frozen? ⟨b, o, none⟩ = false := (h.frozen (p := ⟨b, o, none⟩) hb).trans hc

set_option maxHeartbeats 400000 in
theorem abs_any (neg : Bool) (A : Option Addr) (n c v B : Nat) (w : World) (hr : Bys w B A (be v n)) (hB : B ≤ w.heap.size) (hn : n < 1000000) (_hc : n ≤ c) (_hm : c ≤ maxLen) :
    Calls Tryd.prog 47 #[.agg #[.bool neg, .slice A n c]] w (RetOwn w (le v n)) := by
  have hr1 := hr.alloc hB (.cells #[.bool neg, .slice A n c] 24)
  have hW : Below w.heap.size w (w.alloc (.cells #[.bool neg, .slice A n c] 24)) := Below.alloc (Below.refl _ w) (Nat.le_refl _) _
  have hd : (w.alloc (.cells #[.bool neg, .slice A n c] 24)).cell? ⟨w.heap.size, 1, none⟩ = some (.slice A n c) := by rw [World.cell?_alloc_at _ _ _ _ rfl]; rfl
  have hs : (w.alloc (.cells #[.bool neg, .slice A n c] 24)).heap.size = w.heap.size + 1 := by simp
  go_enter Tryd.func47, Tryd.ntmps47
  go_wp2
  generalize w.alloc (.cells #[.bool neg, .slice A n c] 24) = W at *
  have HW := Lib.hid hW
  have HS := Lib.hid hs
  clear hW hs
  go_loopw [3, 4] (fun x i wr => ∃ k : Nat, k ≤ n ∧ i = .int .i64 ((k : Int) - 1) ∧ Own wr (w.heap.size + 1) x (le v (n - k)) ∧ Below (w.heap.size + 1) W wr) (fun _ i _ => (intOf i + 1).toNat)
  case atStart => exact ⟨n, Nat.le_refl _, rfl, by simpa [le] using Own.nil_, Below.refl _ _⟩
  case round =>
    obtain ⟨k, hk, rfl, hown, hbl⟩ := hrel
    have hsz : w.heap.size + 1 ≤ wr.heap.size := by have := hbl.size; have := HS.out; omega
    have hcd := kept_cell hbl hd (by omega)
    have hrr := hr1.below' hbl (by omega)
    clear hd hr hr1
    by_cases h0 : 0 < k
    · obtain ⟨b, o, rfl, hbB, hcell⟩ := hrr (by simp; omega)
      have hcl : wr.cell? ⟨b, o + (k - 1), none⟩ = some (.int .u8 (byt v (n - k))) := by
        rw [hcell (k - 1) (by simp; omega), be_get v n (k - 1) (by omega), show n - 1 - (k - 1) = n - k from by omega]
      have hbb := byt_b v (n - k)
      have hle := Lib.hid (le_succ v (n - k))
      have HB := Lib.hid hbl
      have HO := Lib.hid hown
      clear hcell hbl hown
      go_wp2_with (at_builtin; refine app1 rfl _ _ _ rfl Tryd.underlying62 rfl (HO.out.alloc _) (HB.out.alloc (by assumption) _) ?c1 wr.heap.size (byt v (n - k)) rfl ?c2 ?c3 ?_)
      case c1 => simp; omega
      case c2 => rw [World.cell?_alloc_at _ _ _ _ rfl]; rfl
      case c3 => simp; omega
      intro x' w1 hown1 hbl1
      clear hcl hcd
      go_wp2
      go_roundw
      case rel => exact ⟨k - 1, by omega, vi (by omega), by rw [show n - (k - 1) = n - k + 1 from by omega, hle.out]; exact hown1, hbl1⟩
      case measure => simp [intOf]; omega
    · obtain rfl : k = 0 := by omega
      have hX : RetOwn w (le v n) (Ending.returned u3) wr := ⟨⟨u3, rfl, by simpa using hown.less (by omega)⟩, HW.out.trans (hbl.mono (by omega))⟩
      clear hcd
      go_wp2
      go_ret
      exact hX
end Go.Proofs.YtnkklmbmodkogaaDoor

/-! R2 -/
namespace Go.Proofs.YtnkklmbmodkogaaDoor
open Go.RowKit

set_option maxHeartbeats 400000 in
theorem order_any (A A' : Option Addr) (n m c c' u v B : Nat) (w : World) (hr : Bys w B A (le u n)) (hr' : Bys w B A' (le v m)) (hB : B ≤ w.heap.size) (hn : n = blen u) (hm : m = blen v) (hn1 : n < 1000000) (hm1 : m < 1000000) :
    Calls Tryd.prog 46 #[.slice A n c, .slice A' m c'] w fun e w' => e = .returned (.int .i64 (cmpN u v)) ∧ Below w.heap.size w w' := by
  rcases Nat.lt_trichotomy n m with h | h | h
  · have hC := Lib.hid (cmpN_lt (blen_mono (u := u) (v := v) (by omega)))
    have hne : ((n : Int) != m) = true := by simp; omega
    clear hn hm
    go_enter Tryd.func46, Tryd.ntmps46
    go_wp2
    go_ret
    exact ⟨ret_i hC.out.symm, Below.refl _ _⟩
  · subst h
    have hu := blen_hi u
    have hv := blen_hi v
    rw [← hn] at hu
    rw [← hm] at hv
    clear hn hm
    have hne : ((n : Int) != n) = false := by simp
    go_enter Tryd.func46, Tryd.ntmps46
    go_wp2
    go_loopw [5] (fun i wr => ∃ k : Nat, k ≤ n ∧ i = .int .i64 ((k : Int) - 1) ∧ u / 256 ^ k = v / 256 ^ k ∧ Below w.heap.size w wr) (fun i _ => (intOf i + 1).toNat)
    case atStart => exact ⟨n, Nat.le_refl _, rfl, high_top hu hv, Below.refl _ _⟩
    case round =>
      obtain ⟨k, hk, rfl, hh, hbl⟩ := hrel
      have HH := Lib.hid hh
      clear hh
      by_cases h0 : 0 < k
      · obtain ⟨b, o, rfl, hbB, hcell⟩ := hr (by simp; omega)
        obtain ⟨b', o', rfl, hbB', hcell'⟩ := hr' (by simp; omega)
        have hcl : wr.cell? ⟨b, o + (k - 1), none⟩ = some (.int .u8 (byt u (k - 1))) := by
          rw [kept_cell hbl (hcell (k - 1) (by simp; omega)) (by omega), le_get u n (k - 1) (by omega)]
        have hcl' : wr.cell? ⟨b', o' + (k - 1), none⟩ = some (.int .u8 (byt v (k - 1))) := by
          rw [kept_cell hbl (hcell' (k - 1) (by simp; omega)) (by omega), le_get v n (k - 1) (by omega)]
        clear hcell hcell' hr hr'
        have HBl := Lib.hid hbl
        clear hbl
        have hk1 : k - 1 + 1 = k := by omega
        by_cases e : byt u (k - 1) = byt v (k - 1)
        · have hS := byt_high_step (k := k - 1) (by rw [hk1]; exact HH.out) e
          have hE : (byt u (k - 1) != byt v (k - 1)) = false := by simp [e]
          have HS := Lib.hid hS
          have i0 : (0 : Int) ≤ (k : Int) - 1 := by omega
          have i1 : (k : Int) - 1 < n := by omega
          clear e hS hk1
          go_wp2
          go_quiet (fail)
          go_wp2
          go_roundw
          case rel => exact ⟨k - 1, by omega, vi (by omega), HS.out, below_drewN HBl.out _⟩
          case measure => simp [intOf]; omega
        · have hE : (byt u (k - 1) != byt v (k - 1)) = true := by simp [e]
          have i0 : (0 : Int) ≤ (k : Int) - 1 := by omega
          have i1 : (k : Int) - 1 < n := by omega
          by_cases hl : byt u (k - 1) < byt v (k - 1)
          · have hS := Lib.hid (cmpN_lt (byt_high_lt (k := k - 1) (by rw [hk1]; exact HH.out) hl))
            have hD : decide (byt u (k - 1) < byt v (k - 1)) = true := by simp [hl]
            clear e hk1 hl
            go_wp2
            go_quiet (fail)
            go_wp2
            go_quiet (fail)
            go_wp2
            go_ret
            exact ⟨ret_i hS.out.symm, below_drewN (below_drewN HBl.out _) _⟩
          · have hS := Lib.hid (cmpN_gt (byt_high_lt (u := v) (v := u) (k := k - 1) (by rw [hk1]; exact HH.out.symm) (by omega)))
            have hD : decide (byt u (k - 1) < byt v (k - 1)) = false := by simp [hl]
            clear e hk1 hl
            go_wp2
            go_quiet (fail)
            go_wp2
            go_quiet (fail)
            go_wp2
            go_ret
            exact ⟨ret_i hS.out.symm, below_drewN (below_drewN HBl.out _) _⟩
      · obtain rfl : k = 0 := by omega
        have hS := Lib.hid (cmpN_eq (u := u) (v := v) (by simpa using HH.out))
        have HBl := Lib.hid hbl
        clear hbl
        go_wp2
        go_ret
        exact ⟨ret_i hS.out.symm, HBl.out⟩
  · have hC := Lib.hid (cmpN_gt (blen_mono (u := v) (v := u) (by omega)))
    have hne : ((n : Int) != m) = true := by simp; omega
    clear hn hm
    go_enter Tryd.func46, Tryd.ntmps46
    go_wp2
    go_ret
    exact ⟨ret_i hC.out.symm, Below.refl _ _⟩
end Go.Proofs.YtnkklmbmodkogaaDoor
