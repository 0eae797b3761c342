/- Package blake: words of 32 bits: the model of BLAKE2s over the walk's own terms; rotations. -/
import Derived.Test.YtdjfklllfbenjaaDoorRows
import Derived.WalkKit
import Derived.WalkSpells
import Derived.WalkLawsBesides
import Derived.Lib.Hide
import Derived.Deep.QuietTactic
import Derived.BigQuiet
import Derived.RowKit3
import Derived.ProofKit
import Derived.OpenShut
import Derived.Laws.Closers25b
import Derived.RegionTactic
namespace Go.Proofs.YtdjfklllfbenjaaDoor
open Go.RowKit


/-! ### The model -/
def ad (a b : Int) : Int := (a + b) % 4294967296
def xo (a b : Int) : Int := bits .xor .u32 a b
def rt16 (x : Int) : Int := bits .or .u32 (x * 65536 % 4294967296) (x / 65536)
def rt12 (x : Int) : Int := bits .or .u32 (x * 1048576 % 4294967296) (x / 4096)
def rt8 (x : Int) : Int := bits .or .u32 (x * 16777216 % 4294967296) (x / 256)
def rt7 (x : Int) : Int := bits .or .u32 (x * 33554432 % 4294967296) (x / 128)
def gA (va vb x : Int) : Int := (va + (vb + x)) % 4294967296
/-- G of (a, b, c, d) with x and y: the four new words. -/
structure Gq where
  a : Int
  b : Int
  c : Int
  d : Int
def gq (va vb vc vd x y : Int) : Gq :=
  let a1 := gA va vb x
  let d1 := rt16 (xo vd a1)
  let c1 := ad vc d1
  let b1 := rt12 (xo vb c1)
  let a2 := gA a1 b1 y
  let d2 := rt8 (xo d1 a2)
  let c2 := ad c1 d2
  let b2 := rt7 (xo b1 c2)
  ⟨a2, b2, c2, d2⟩
/-- Element k of a list of words. -/
def at_ (v : List Int) (k : Nat) : Int := v[k]?.getD 0
def mixL (v : List Int) (a b c d : Nat) (x y : Int) : List Int :=
  let q := gq (at_ v a) (at_ v b) (at_ v c) (at_ v d) x y
  (((v.set a q.a).set b q.b).set c q.c).set d q.d
theorem mixL_len (v : List Int) (a b c d : Nat) (x y : Int) : (mixL v a b c d x y).length = v.length := by simp [mixL]
theorem bits_or_comm (k : IntKind) (x y : Int) : bits .or k x y = bits .or k y x := by
  unfold bits
  simp only [BitVec.or_comm]
theorem ofInt_wrap32 (b : BitVec 32) : BitVec.ofInt 32 (IntKind.u32.wrap (b.toNat : Int)) = b := by
  rw [IntKind.wrap_u32]
  apply BitVec.eq_of_toNat_eq
  simp [BitVec.toNat_ofInt]
  omega
theorem xo_assoc (x y z : Int) : xo (xo x y) z = xo x (xo y z) := by
  have h : ∀ b : BitVec IntKind.u32.bits, BitVec.ofInt IntKind.u32.bits (IntKind.u32.wrap (b.toNat : Int)) = b := ofInt_wrap32
  unfold xo bits
  simp only [h, BitVec.xor_assoc]

/-! ### Rotations -/
theorem rot16_any (x : Int) (w : World) : Calls Tryd.prog 61 #[.int .u32 x, .int .i64 (-16)] w fun e w' => e = .returned (.int .u32 (rt16 x)) ∧ w' = w := by
  have h1 : IntKind.u64.wrap (-16) = 18446744073709551616 - 16 := by decide +kernel
  have h2 : bits .and .u64 (18446744073709551616 - 16) 31 = 16 := by decide +kernel
  simp only [Int.reduceSub] at h1 h2
  go_enter Tryd.func61, Tryd.ntmps61
  go_wp2
  go_ret
  exact ⟨rfl, rfl⟩
theorem right16_any (x : Int) (w : World) : Calls Tryd.prog 57 #[.int .u32 x, .int .i64 16] w fun e w' => e = .returned (.int .u32 (rt16 x)) ∧ ∃ n, w' = w.drewN n := by
  unfold rt16
  rw [bits_or_comm]
  go_enter Tryd.func57, Tryd.ntmps57
  go_wp2
  go_quiet (fail)
  go_wp2
  go_ret
  exact ⟨rfl, _, rfl⟩
theorem rot12_any (x : Int) (w : World) : Calls Tryd.prog 61 #[.int .u32 x, .int .i64 (-12)] w fun e w' => e = .returned (.int .u32 (rt12 x)) ∧ w' = w := by
  have h1 : IntKind.u64.wrap (-12) = 18446744073709551616 - 12 := by decide +kernel
  have h2 : bits .and .u64 (18446744073709551616 - 12) 31 = 20 := by decide +kernel
  simp only [Int.reduceSub] at h1 h2
  go_enter Tryd.func61, Tryd.ntmps61
  go_wp2
  go_ret
  exact ⟨rfl, rfl⟩
theorem right12_any (x : Int) (w : World) : Calls Tryd.prog 57 #[.int .u32 x, .int .i64 12] w fun e w' => e = .returned (.int .u32 (rt12 x)) ∧ ∃ n, w' = w.drewN n := by
  unfold rt12
  rw [bits_or_comm]
  go_enter Tryd.func57, Tryd.ntmps57
  go_wp2
  go_quiet (fail)
  go_wp2
  go_ret
  exact ⟨rfl, _, rfl⟩
theorem rot8_any (x : Int) (w : World) : Calls Tryd.prog 61 #[.int .u32 x, .int .i64 (-8)] w fun e w' => e = .returned (.int .u32 (rt8 x)) ∧ w' = w := by
  have h1 : IntKind.u64.wrap (-8) = 18446744073709551616 - 8 := by decide +kernel
  have h2 : bits .and .u64 (18446744073709551616 - 8) 31 = 24 := by decide +kernel
  simp only [Int.reduceSub] at h1 h2
  go_enter Tryd.func61, Tryd.ntmps61
  go_wp2
  go_ret
  exact ⟨rfl, rfl⟩
theorem right8_any (x : Int) (w : World) : Calls Tryd.prog 57 #[.int .u32 x, .int .i64 8] w fun e w' => e = .returned (.int .u32 (rt8 x)) ∧ ∃ n, w' = w.drewN n := by
  unfold rt8
  rw [bits_or_comm]
  go_enter Tryd.func57, Tryd.ntmps57
  go_wp2
  go_quiet (fail)
  go_wp2
  go_ret
  exact ⟨rfl, _, rfl⟩
theorem rot7_any (x : Int) (w : World) : Calls Tryd.prog 61 #[.int .u32 x, .int .i64 (-7)] w fun e w' => e = .returned (.int .u32 (rt7 x)) ∧ w' = w := by
  have h1 : IntKind.u64.wrap (-7) = 18446744073709551616 - 7 := by decide +kernel
  have h2 : bits .and .u64 (18446744073709551616 - 7) 31 = 25 := by decide +kernel
  simp only [Int.reduceSub] at h1 h2
  go_enter Tryd.func61, Tryd.ntmps61
  go_wp2
  go_ret
  exact ⟨rfl, rfl⟩
theorem right7_any (x : Int) (w : World) : Calls Tryd.prog 57 #[.int .u32 x, .int .i64 7] w fun e w' => e = .returned (.int .u32 (rt7 x)) ∧ ∃ n, w' = w.drewN n := by
  unfold rt7
  rw [bits_or_comm]
  go_enter Tryd.func57, Tryd.ntmps57
  go_wp2
  go_quiet (fail)
  go_wp2
  go_ret
  exact ⟨rfl, _, rfl⟩

/-! ### A variable that is a row of words -/
def u32s (vs : List Int) : Array Value := (vs.map (Value.int .u32)).toArray
/-- Block b is one variable of type T that holds the words vs. -/
def U32 (w : World) (b : Nat) (T : TypeId) (vs : List Int) : Prop := w.heap[b]? = some (.cells (u32s vs) T (0, 0))
/-- Of the blocks that there were only block p may have changed. -/
structure But (p : Nat) (w w' : World) : Prop where
  os : w'.os = w.os
  tape : w'.tape = w.tape
  output : w'.output = w.output
  size : w.heap.size ≤ w'.heap.size
  block : ∀ i, i ≠ p → i < w.heap.size → w'.heap[i]? = w.heap[i]?
section
variable {w w' : World} {p q b : Nat} {T : TypeId} {vs : List Int}
theorem U32.lt (h : U32 w b T vs) : b < w.heap.size := by
  rcases Nat.lt_or_ge b w.heap.size with hl | hl
  · exact hl
  · unfold U32 at h; rw [Array.getElem?_eq_none hl] at h; cases h
theorem U32.cell (h : U32 w b T vs) (k : Nat) (hk : k < vs.length) : w.cell? ⟨b, k, none⟩ = some (.int .u32 (at_ vs k)) := by
  have := cell_of_row w b k (u32s vs) T (0, 0) h
  rw [this]
  simp [u32s, at_, hk]
theorem U32.free (h : U32 w b T vs) (k : Nat) : w.frozen? ⟨b, k, none⟩ = false := by
  unfold U32 at h
  simp [World.frozen?, h]
theorem U32.new (w : World) (T : TypeId) (vs : List Int) : U32 (w.alloc (.cells (u32s vs) T)) w.heap.size T vs := heap_alloc_new w _
theorem U32.drew (h : U32 w b T vs) : U32 w.drew b T vs := h
theorem U32.drewN (h : U32 w b T vs) (n : Nat) : U32 (w.drewN n) b T vs := h
theorem U32.alloc (h : U32 w b T vs) (o : Obj) : U32 (w.alloc o) b T vs := (Below.heap_alloc w o b h.lt).trans h
theorem U32.set_ (h : U32 w b T vs) (k : Nat) (v : Int) : U32 (w.setCell ⟨b, k, none⟩ (.int .u32 v)) b T (vs.set k v) := by
  unfold U32 at h ⊢
  simp [World.setCell, Array.getElem?_modify, h, u32s, List.map_set]
theorem U32.far (h : U32 w b T vs) {p : Addr} (hp : b ≠ p.block) (u : Value) : U32 (w.setCell p u) b T vs := (Below.heap_setCell w p u b hp).trans h
theorem U32.below {B : Nat} (h : U32 w b T vs) (hb : Below B w w') (hg : b < B) : U32 w' b T vs := (hb.block b hg).trans h
theorem U32.but (h : U32 w b T vs) (hb : But p w w') (hne : b ≠ p) : U32 w' b T vs := (hb.block b hne h.lt).trans h
theorem But.refl (p : Nat) (w : World) : But p w w := ⟨rfl, rfl, rfl, Nat.le_refl _, fun _ _ _ => rfl⟩
theorem But.trans {a b c : World} (h : But p a b) (k : But p b c) : But p a c := ⟨k.os.trans h.os, k.tape.trans h.tape, k.output.trans h.output, Nat.le_trans h.size k.size, fun i hi hl => (k.block i hi (Nat.lt_of_lt_of_le hl h.size)).trans (h.block i hi hl)⟩
theorem But.set_ (p o : Nat) (w : World) (v : Value) : But p w (w.setCell ⟨p, o, none⟩ v) := ⟨rfl, rfl, rfl, by simp [World.setCell], fun i hi _ => Below.heap_setCell w _ v i hi⟩
theorem But.drew {a b : World} (h : But p a b) : But p a b.drew := ⟨h.os, h.tape, h.output, h.size, h.block⟩
theorem But.drewN {a b : World} (h : But p a b) (n : Nat) : But p a (b.drewN n) := ⟨h.os, h.tape, h.output, h.size, h.block⟩
theorem But.below (h : But p w w') {B : Nat} (hB : B ≤ p) (hw : B ≤ w.heap.size) : Below B w w' := ⟨h.os, h.tape, h.output, h.size, fun i hi => h.block i (by omega) (by omega)⟩
theorem But.of_below (h : Below w.heap.size w w') : But p w w' := ⟨h.os, h.tape, h.output, h.size, fun i _ hl => h.block i hl⟩
theorem Below.but {w0 X Y : World} (h : Below w0.heap.size w0 X) (hq : But p X Y) (hp : w0.heap.size ≤ p) : Below w0.heap.size w0 Y := h.trans (hq.below hp h.size)
theorem Below.next {w0 X Y : World} (h : Below w0.heap.size w0 X) (hq : Below X.heap.size X Y) : Below w0.heap.size w0 Y := h.trans ⟨hq.os, hq.tape, hq.output, hq.size, fun k hk => hq.block k (Nat.lt_of_lt_of_le hk h.size)⟩
theorem Below.new (w : World) (o : Obj) : Below w.heap.size w (w.alloc o) := Below.alloc (Below.refl w.heap.size w) (Nat.le_refl _) o
theorem below_drewN {B : Nat} {a w : World} (h : Below B a w) (n : Nat) : Below B a (w.drewN n) := ⟨h.os, h.tape, h.output, h.size, h.block⟩
end
theorem at_set (v : List Int) (i j : Nat) (x : Int) (hi : i < v.length) : at_ (v.set i x) j = if i = j then x else at_ v j := by
  unfold at_
  rw [List.getElem?_set]
  by_cases h : i = j
  · subst h; simp [hi]
  · simp [h]
end Go.Proofs.YtdjfklllfbenjaaDoor
