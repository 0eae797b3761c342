/- Package wire: an input; a byte of it. -/
import Derived.Test.YtocdjieaphkbdaaWg
namespace Go.Proofs.Ytocdjieaphkbdaa
open Go.RowKit

/-- A panic with an error. -/
def pan (e : Int) : Ending := .panicked [{ v := .iface 25 (.int .i64 e), recovered := false }]
/-- Block g is an input: the bytes bd, of which k have been read. -/
def Inp (w : World) (g : Nat) (A : Option Addr) (n c : Nat) (bd : List Int) (k : Nat) : Prop :=
  w.heap[g]? = some (.cells #[.slice A n c, .int .i64 k] 79 (0, 0)) ∧ Rw w (fun i => i ≠ g) .u8 (.slice A n c) bd ∧ bd.length = n ∧ k ≤ n ∧ n < 1000000 ∧ Bys8 bd
section
variable {E : Nat → Prop} {w w' : World} {g n c k : Nat} {A : Option Addr} {bd : List Int}
theorem Inp.lt (h : Inp w g A n c bd k) : g < w.heap.size := (Array.getElem?_eq_some_iff.1 h.1).1
theorem Inp.c0 (h : Inp w g A n c bd k) : w.cell? ⟨g, 0, none⟩ = some (.slice A n c) := by rw [cell_of_row w g 0 _ 79 (0, 0) h.1]; rfl
theorem Inp.c1 (h : Inp w g A n c bd k) : w.cell? ⟨g, 1, none⟩ = some (.int .i64 k) := by rw [cell_of_row w g 1 _ 79 (0, 0) h.1]; rfl
theorem Inp.free (h : Inp w g A n c bd k) (j : Nat) : w.frozen? ⟨g, j, none⟩ = false := by simp [World.frozen?, h.1]
theorem Inp.set_ (h : Inp w g A n c bd k) {m : Nat} (hm : m ≤ n) : Inp (w.setCell ⟨g, 1, none⟩ (.int .i64 m)) g A n c bd m := by
  refine ⟨?_, h.2.1.ch (Ch.put w g 1 _) fun i _ h1 => h1, h.2.2.1, hm, h.2.2.2.2⟩
  rw [heap_setCell_same w g 1 _ 79 _ h.1]
  rfl
theorem Inp.drew (h : Inp w g A n c bd k) : Inp w.drew g A n c bd k := h
theorem Inp.ch (h : Inp w g A n c bd k) (hc : Ch No w w') : Inp w' g A n c bd k := ⟨(hc.block g h.lt (fun h' => h')).trans h.1, h.2.1.ch hc fun _ _ _ h' => h', h.2.2⟩
end
theorem dropped {bd : List Int} {k : Nat} (h : k < bd.length) : bd.drop k = at_ bd k :: bd.drop (k + 1) := by
  rw [List.drop_eq_getElem_cons h]
  simp [at_, h]
theorem wrap_k {k : Nat} (h : k < 1000000) : wrap64 ((k : Int) + 1) = (k : Int) + 1 := by unfold wrap64; omega
theorem back_k {k : Nat} (h : k < 1000000) : wrap64 ((k : Int) + 1 - 1) = (k : Int) := by unfold wrap64; omega
set_option maxRecDepth 100000 in
theorem one_ok {w : World} {g n c k : Nat} {A : Option Addr} {bd : List Int} (h : Inp w g A n c bd k) (hk : k < n) :
    Calls Try.prog 75 #[.pointer (some ⟨g, 0, none⟩)] w fun r w' => r = .returned (.int .u8 (at_ bd k)) ∧ Inp w' g A n c bd (k + 1) ∧ Ch (fun i => i = g) w w' := by
  obtain ⟨b, o, rfl, hPb, hbl, hcl⟩ := h.2.1.at (by rw [h.2.2.1]; omega)
  have c0 := h.c0
  have c1 := h.c1
  have f1 := h.free 1
  have HS := Lib.hid (h.drew.set_ (m := k + 1) (by omega))
  have c2 : (w.setCell ⟨g, 1, none⟩ (.int .i64 ((k : Int) + 1))).cell? ⟨b, o + k, none⟩ = some (.int .u8 (at_ bd k)) := (Ch.put w g 1 (.int .i64 ((k + 1 : Nat) : Int))).cell (hcl k (by rw [h.2.2.1]; exact hk)) hPb
  have d0 : (w.setCell ⟨g, 1, none⟩ (.int .i64 ((k : Int) + 1))).cell? ⟨g, 0, none⟩ = some (.slice (some ⟨b, o, none⟩) n c) := (h.set_ (m := k + 1) (by omega)).c0
  have d1 : (w.setCell ⟨g, 1, none⟩ (.int .i64 ((k : Int) + 1))).cell? ⟨g, 1, none⟩ = some (.int .i64 ((k : Int) + 1)) := (h.set_ (m := k + 1) (by omega)).c1
  have gN : n < 1000000 := h.2.2.2.2.1
  have gI : (k : Int) < n := by omega
  have gE : ((k : Int) == (n : Int)) = false := by simp; omega
  generalize at_ bd k = z at *
  clear h hcl
  go_enter Try.func75, Try.ntmps75
  go_wp2_with (fail)
  go_region
  go_wp2_with (fail)
  go_region
  go_wp2_with (fail)
  go_ret
  exact ⟨rfl, HS.out, ((Ch.refl _ w).drew.trans (Ch.put _ _ _ _) fun _ _ h => h).drew⟩
set_option maxRecDepth 100000 in
theorem one_no {w : World} {g n c : Nat} {A : Option Addr} {bd : List Int} (h : Inp w g A n c bd n) :
    Calls Try.prog 75 #[.pointer (some ⟨g, 0, none⟩)] w fun r w' => r = pan 4 ∧ Ch (fun i => i = g) w w' := by
  have c0 := h.c0
  have c1 := h.c1
  clear h
  go_enter Try.func75, Try.ntmps75
  go_wp2_with (fail)
  go_region
  go_wp2_with (fail)
  exact ⟨rfl, rfl, (Ch.refl _ _).drew⟩
/-- What a reading call leaves: the input moved, or a panic. -/
def Reads {α : Type} (w : World) (g : Nat) (A : Option Addr) (n c : Nat) (bd : List Int) (k : Nat) (R : Rd α) (F : α → World → Value → Prop) : Ending → World → Prop := fun r w' =>
  Ch (fun i => i = g) w w' ∧ match R with
    | .bad e => r = pan e
    | .good v m => (∃ x, r = .returned x ∧ F v w' x) ∧ Inp w' g A n c bd (k + m)
end Go.Proofs.Ytocdjieaphkbdaa
