/- Package wire: a reader. -/
import Derived.Test.YtocdjieaphkbdaaWl1
namespace Go.Proofs.Ytocdjieaphkbdaa
open Go.RowKit

/-- Block p is a reader of the bytes bd with the first error er, at the offset k. -/
def RdAt (w : World) (p : Nat) (A : Option Addr) (n c : Nat) (bd : List Int) (er : Int) (k : Nat) : Prop :=
  w.heap[p]? = some (.cells #[.int .i64 er, .bool true, .slice A n c, .int .i64 k] 81 (0, 0)) ∧ Rw w (fun i => i ≠ p) .u8 (.slice A n c) bd ∧ bd.length = n ∧ k ≤ n ∧ n < 1000000 ∧ Bys8 bd
section
variable {E : Nat → Prop} {w w' : World} {p n c k : Nat} {A : Option Addr} {bd : List Int} {er : Int}
theorem RdAt.lt (h : RdAt w p A n c bd er k) : p < w.heap.size := (Array.getElem?_eq_some_iff.1 h.1).1
theorem RdAt.c0 (h : RdAt w p A n c bd er k) : w.cell? ⟨p, 0, none⟩ = some (.int .i64 er) := by rw [cell_of_row w p 0 _ 81 (0, 0) h.1]; rfl
theorem RdAt.c1 (h : RdAt w p A n c bd er k) : w.cell? ⟨p, 1, none⟩ = some (.bool true) := by rw [cell_of_row w p 1 _ 81 (0, 0) h.1]; rfl
theorem RdAt.c2 (h : RdAt w p A n c bd er k) : w.cell? ⟨p, 2, none⟩ = some (.slice A n c) := by rw [cell_of_row w p 2 _ 81 (0, 0) h.1]; rfl
theorem RdAt.c3 (h : RdAt w p A n c bd er k) : w.cell? ⟨p, 3, none⟩ = some (.int .i64 k) := by rw [cell_of_row w p 3 _ 81 (0, 0) h.1]; rfl
theorem RdAt.free (h : RdAt w p A n c bd er k) (j : Nat) : w.frozen? ⟨p, j, none⟩ = false := by simp [World.frozen?, h.1]
theorem RdAt.ch (h : RdAt w p A n c bd er k) (hc : Ch E w w') (hp : ¬ E p) (hE : ∀ i, i < w.heap.size → i ≠ p → ¬ E i) : RdAt w' p A n c bd er k :=
  ⟨(hc.block p h.lt hp).trans h.1, h.2.1.ch hc hE, h.2.2⟩
theorem RdAt.no (h : RdAt w p A n c bd er k) (hc : Ch No w w') : RdAt w' p A n c bd er k := h.ch hc (fun h' => h') fun _ _ _ h' => h'
theorem RdAt.err (h : RdAt w p A n c bd er k) (e : Int) : RdAt (w.setCell ⟨p, 0, none⟩ (.int .i64 e)) p A n c bd e k := by
  refine ⟨?_, h.2.1.ch (Ch.put w p 0 _) fun i _ h1 => h1, h.2.2⟩
  rw [heap_setCell_same w p 0 _ 81 _ h.1]
  rfl
theorem RdAt.to (h : RdAt w p A n c bd er k) {m : Nat} (hm : m ≤ n) : RdAt ((w.setCell ⟨p, 2, none⟩ (.slice A n c)).setCell ⟨p, 3, none⟩ (.int .i64 m)) p A n c bd er m := by
  have h1 := heap_setCell_same w p 2 _ 81 (.slice A n c) h.1
  refine ⟨?_, (h.2.1.ch (Ch.put w p 2 _) fun i _ h1 => h1).ch (Ch.put _ p 3 _) fun i _ h1 => h1, h.2.2.1, hm, h.2.2.2.2⟩
  rw [heap_setCell_same _ p 3 _ 81 _ h1]
  rfl
/-- The copy that is read from. -/
theorem RdAt.inp (h : RdAt w p A n c bd er k) {g : Nat} (hc : Ch No w w') (hg : w.heap.size ≤ g) (hh : w'.heap[g]? = some (.cells #[.slice A n c, .int .i64 k] 79 (0, 0))) : Inp w' g A n c bd k := by
  refine ⟨hh, ?_, h.2.2⟩
  have := h.2.1.mono (P' := fun i => i < w.heap.size) fun i hi _ => hi
  exact (this.ch hc fun _ _ _ h' => h').mono fun i _ h' => by omega
end
/-- No reader. -/
def NoRd (w : World) (r : Value) : Prop := r = .pointer none ∨ ∃ p, r = .pointer (some ⟨p, 0, none⟩) ∧ w.cell? ⟨p, 1, none⟩ = some (.bool false)
theorem NoRd.no {w w' : World} {r : Value} (h : NoRd w r) (hc : Ch No w w') : NoRd w' r := by
  rcases h with rfl | ⟨p, rfl, h⟩
  · exact .inl rfl
  · exact .inr ⟨p, rfl, hc.cell h (fun h' => h')⟩
theorem is_no {w : World} {r : Value} (h : NoRd w r) : Calls Try.prog 65 #[r] w fun e w' => e = .returned (.bool false) ∧ w' = w := by
  rcases h with rfl | ⟨p, rfl, h⟩
  · go_enter Try.func65, Try.ntmps65
    go_wp2_with (fail)
    go_ret
    exact ⟨rfl, rfl⟩
  · go_enter Try.func65, Try.ntmps65
    go_wp2_with (fail)
    go_ret
    exact ⟨rfl, rfl⟩
theorem is_yes {w : World} {p n c k : Nat} {A : Option Addr} {bd : List Int} {er : Int} (h : RdAt w p A n c bd er k) : Calls Try.prog 65 #[.pointer (some ⟨p, 0, none⟩)] w fun e w' => e = .returned (.bool true) ∧ w' = w := by
  have c1 := h.c1
  clear h
  go_enter Try.func65, Try.ntmps65
  go_wp2_with (fail)
  go_ret
  exact ⟨rfl, rfl⟩
/-- What next leaves: the reader moved, or its first error. -/
def Nexts {α : Type} (w : World) (p : Nat) (A : Option Addr) (n c : Nat) (bd : List Int) (k : Nat) (Z : Value) (R : Rd α) (F : α → World → Value → Prop) : Ending → World → Prop := fun r w' =>
  Ch (fun i => i = p) w w' ∧ match R with
    | .bad e => r = .returned Z ∧ RdAt w' p A n c bd e k
    | .good v m => (∃ x, r = .returned x ∧ F v w' x) ∧ RdAt w' p A n c bd 0 (k + m)
end Go.Proofs.Ytocdjieaphkbdaa
