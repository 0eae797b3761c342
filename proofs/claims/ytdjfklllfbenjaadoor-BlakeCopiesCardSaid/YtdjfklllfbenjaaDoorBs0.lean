/- Arrays of equal bytes; guarded loads. -/
import Derived.Test.YtdjfklllfbenjaaDoorBq
import Derived.Stop.BytesEq
namespace Go.Proofs.YtdjfklllfbenjaaDoor
open Go.RowKit

theorem bytes_cells (xs : List Int) (h : ∀ x ∈ xs, 0 ≤ x ∧ x < 256) : ∃ us : List UInt8, us.length = xs.length ∧ us.map Extern.Stop.cell = xs.map (Value.int .u8) := by
  refine ⟨xs.map fun x => UInt8.ofNat x.toNat, by simp, ?_⟩
  rw [List.map_map]
  apply List.map_congr_left
  intro x hx
  obtain ⟨h0, h1⟩ := h x hx
  show Value.int .u8 ((UInt8.ofNat x.toNat).toNat : Int) = .int .u8 x
  rw [UInt8.toNat_ofNat']
  congr 1
  omega
theorem sizeU8 (w : World) : (sizeOf 5).run Tryd.prog w = .ok 1 w := by
  obtain ⟨i0, hi, hz0, hz1, hz2⟩ := info_parts infoZU8
  simp [sizeOf, typeInfo, hi, hz1]
/-- Two arrays of equal bytes are equal. -/
theorem eq_same (xs : List Int) (h : ∀ x ∈ xs, 0 ≤ x ∧ x < 256) (hl : xs.length = 32) (w : World) : (Op.equalIn 10000 24 (.agg (u8s xs)) (.agg (u8s xs))).run Tryd.prog w = .ok true w := by
  obtain ⟨us, h1, h2⟩ := bytes_cells xs h
  have := run_equalIn_bytes (P := Tryd.prog) w 9998 24 5 32 Tryd.underlying24 Tryd.underlying5 sizeU8 us us (by rw [h1, hl]) (by rw [h1, hl])
  rw [h2] at this
  simpa [u8s] using this
theorem z32_bytes : ∀ x ∈ z32, 0 ≤ x ∧ x < (256 : Int) := by intro x hx; rw [List.eq_of_mem_replicate hx]; decide
theorem wpList_wanted {ops : Array Oper} {rest : List Oper} {o : Oper} {a : Act} {w : World} {Q : Exit → Act → World → Prop} (hw : Region.wanted o (yielded ops a.tmps) = true)
    (h : ∀ K : Act → World → Prop, (∀ a w, wpList Tryd.prog ops Q rest a w → K a w) → o.wp Tryd.prog a w K Q) : wpList Tryd.prog ops Q (o :: rest) a w :=
  wpList_step fun K hK => by rw [if_pos hw]; exact h K hK
theorem ld32g {ops : Array Oper} {rest : List Oper} {o : Oper} {a : Act} {w : World} {Q : Exit → Act → World → Prop} (hw : Region.wanted o (yielded ops a.tmps) = true) (x : Operand) (ho : o.op = .load 24 x)
    (g : Nat) (hx : a.eval x = .pointer (some ⟨g, 0, none⟩)) (xs : List Int) (hb : U8 w g 24 xs) (h8 : xs.length = 32)
    (h : wpList Tryd.prog ops Q rest (a.put o.dst (.agg (u8s xs))) w) : wpList Tryd.prog ops Q (o :: rest) a w :=
  wpList_wanted hw fun _ hK => wp_load_row 24 x ho g hx 24 (u8s xs) (0, 0) _ hb Tryd.underlying24 rfl (info32 xs h8) (hK _ _ h)
theorem buildG {ops : Array Oper} {rest : List Oper} {o : Oper} {a : Act} {w : World} {Q : Exit → Act → World → Prop} (hw : Region.wanted o (yielded ops a.tmps) = true) (t : TypeId) (parts : Array (Nat × Operand)) (ho : o.op = .build t parts)
    (cells : Array Value) (hf : Tryd.prog.built t (parts.map fun (i, x) => (i, a.eval x)).toList = some cells)
    (h : wpList Tryd.prog ops Q rest (a.put o.dst (.agg cells)) w) : wpList Tryd.prog ops Q (o :: rest) a w :=
  wpList_wanted hw fun _ hK => wp_build t parts ho (by rw [hf]; rfl) (by rw [hf]; exact hK _ _ h)
end Go.Proofs.YtdjfklllfbenjaaDoor
