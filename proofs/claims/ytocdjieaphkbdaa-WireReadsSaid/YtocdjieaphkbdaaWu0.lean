/- law06's write without a writer. -/
import Derived.Test.YtocdjieaphkbdaaWr
namespace Go.Proofs.Ytocdjieaphkbdaa
open Go.RowKit

theorem zWVal (w : World) : (zeroValue 35).run Try.prog w = .ok (.agg #[.int .u8 0, .int .i64 0, .slice none 0 0, .slice none 0 0]) w := by kernel_rfl
theorem uint_nil {w : World} {n : Int} : Calls Try.prog 34 #[.pointer none, .int .i64 n] w fun r w' => r = .returned (.tuple #[]) ∧ w' = w := by
  have H := Lib.hid (ready_n (w := w))
  go_enter Try.func34, Try.ntmps34
  go_wp2_with (fail)
  refine H.out.mono ?_
  rintro e w1 ⟨rfl, rfl⟩
  go_wp2_with (fail)
  first | go_end0 | refine bodyPost_ret (results_none rfl _ _ _) rfl ?_
  exact ⟨rfl, rfl⟩
theorem bytes_nil {w : World} {v : Value} : Calls Try.prog 42 #[.pointer none, v] w fun r w' => r = .returned (.tuple #[]) ∧ w' = w := by
  have H := Lib.hid (ready_n (w := w))
  go_enter Try.func42, Try.ntmps42
  go_wp2_with (fail)
  refine H.out.mono ?_
  rintro e w1 ⟨rfl, rfl⟩
  go_wp2_with (fail)
  first | go_end0 | refine bodyPost_ret (results_none rfl _ _ _) rfl ?_
  exact ⟨rfl, rfl⟩
theorem end_nil {w : World} : Calls Try.prog 14 #[.pointer none] w fun r w' => r = .returned (.tuple #[.slice none 0 0, .int .i64 1]) ∧ w' = w := by
  go_enter Try.func14, Try.ntmps14
  go_wp2_with (fail)
  exact bodyPost_ret (v := .tuple #[.slice none 0 0, .int .i64 1]) (by simp [results, Try.results14, go_sem]) rfl ⟨rfl, rfl⟩
theorem four (w : World) (a b c d : Value) (T : TypeId) : (w.alloc (.cells #[a, b, c, d] T)).cell? ⟨w.heap.size, 0, none⟩ = some a ∧ (w.alloc (.cells #[a, b, c, d] T)).cell? ⟨w.heap.size, 1, none⟩ = some b ∧ (w.alloc (.cells #[a, b, c, d] T)).cell? ⟨w.heap.size, 2, none⟩ = some c ∧ (w.alloc (.cells #[a, b, c, d] T)).cell? ⟨w.heap.size, 3, none⟩ = some d :=
  ⟨by rw [World.cell?_alloc_at _ _ _ _ rfl]; rfl, by rw [World.cell?_alloc_at _ _ _ _ rfl]; rfl, by rw [World.cell?_alloc_at _ _ _ _ rfl]; rfl, by rw [World.cell?_alloc_at _ _ _ _ rfl]; rfl⟩
set_option maxRecDepth 100000 in
theorem write_nil0 {w : World} {n : Int} : Calls Try.prog 12 #[.pointer none, .agg #[.int .u8 0, .int .i64 n, .slice none 0 0, .slice none 0 0]] w fun r w' => r = .returned (.tuple #[]) ∧ Ch No w w' := by
  obtain ⟨c0, c1, c2, c3⟩ := four w (.int .u8 0) (.int .i64 n) (.slice none 0 0) (.slice none 0 0) 35
  have H := Lib.hid (uint_nil (w := w.alloc (.cells #[.int .u8 0, .int .i64 n, .slice none 0 0, .slice none 0 0] 35)) (n := n))
  go_enter Try.func12, Try.ntmps12
  go_wp2_with (fail)
  refine H.out.mono ?_
  rintro e w1 ⟨rfl, hw⟩
  rw [hw]
  clear hw
  go_wp2_with (fail)
  first | go_end0 | refine bodyPost_ret (results_none rfl _ _ _) rfl ?_
  exact ⟨rfl, Ch.new _ _⟩
set_option maxRecDepth 100000 in
theorem write_nil3 {w : World} {A : Option Addr} {n c : Nat} : Calls Try.prog 12 #[.pointer none, .agg #[.int .u8 3, .int .i64 0, .slice A n c, .slice none 0 0]] w fun r w' => r = .returned (.tuple #[]) ∧ Ch No w w' := by
  obtain ⟨c0, c1, c2, c3⟩ := four w (.int .u8 3) (.int .i64 0) (.slice A n c) (.slice none 0 0) 35
  have H := Lib.hid (bytes_nil (w := w.alloc (.cells #[.int .u8 3, .int .i64 0, .slice A n c, .slice none 0 0] 35)) (v := .slice A n c))
  go_enter Try.func12, Try.ntmps12
  go_wp2_with (fail)
  refine H.out.mono ?_
  rintro e w1 ⟨rfl, hw⟩
  rw [hw]
  clear hw
  go_wp2_with (fail)
  first | go_end0 | refine bodyPost_ret (results_none rfl _ _ _) rfl ?_
  exact ⟨rfl, Ch.new _ _⟩
end Go.Proofs.Ytocdjieaphkbdaa
