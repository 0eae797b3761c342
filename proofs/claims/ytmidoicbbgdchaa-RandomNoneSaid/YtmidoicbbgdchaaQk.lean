/- Package random without a source: nil and the zero value. -/
import Derived.Test.YtmidoicbbgdchaaQe
namespace Go.Proofs.Ytmidoicbbgdchaa
open Go.RowKit

/-- What is no source: nil, or a block that was not made by New. -/
def NoSrc (w : World) (v : Value) : Prop := v = .pointer none ∨ ∃ p, v = .pointer (some ⟨p, 0, none⟩) ∧ w.cell? ⟨p, 1, none⟩ = some (.bool false)
theorem isNo {w : World} {v : Value} (h : NoSrc w v) : Calls Try.prog 23 #[v] w fun e w' => e = .returned (.bool false) ∧ w' = w := by
  rcases h with rfl | ⟨p, rfl, c1⟩
  · go_enter Try.func23, Try.ntmps23
    go_wp2
    go_ret
    exact ⟨rfl, rfl⟩
  · go_enter Try.func23, Try.ntmps23
    go_wp2
    go_ret
    exact ⟨rfl, rfl⟩
theorem wordNo {w : World} {v : Value} (h : NoSrc w v) : Calls Try.prog 16 #[v] w fun e w' => e = .returned (.int .u64 0) ∧ w' = w := by
  have HI := Lib.hid (isNo h)
  clear h
  go_enter Try.func16, Try.ntmps16
  go_wp2_with (fail)
  refine HI.out.mono ?_
  rintro e w1 ⟨rfl, rfl⟩
  go_wp2_with (fail)
  go_ret
  exact ⟨rfl, rfl⟩
theorem numberNo {w : World} {v : Value} (n : Int) (h : NoSrc w v) : Calls Try.prog 11 #[v, .int .i64 n] w fun e w' => e = .returned (.tuple #[.int .i64 0, .int .i64 1]) ∧ w' = w := by
  have HI := Lib.hid (isNo h)
  clear h
  go_enter Try.func11, Try.ntmps11
  go_wp2_with (fail)
  refine HI.out.mono ?_
  rintro e w1 ⟨rfl, rfl⟩
  go_wp2_with (fail)
  exact bodyPost_ret (v := .tuple #[.int .i64 0, .int .i64 1]) (by simp [results, Try.results11, go_sem]) rfl ⟨rfl, rfl⟩
theorem shuffleNo {w : World} {v : Value} (n : Int) (h : NoSrc w v) : Calls Try.prog 13 #[v, .int .i64 n] w fun e w' => e = .returned (.tuple #[.slice none 0 0, .int .i64 1]) ∧ w' = w := by
  have HI := Lib.hid (isNo h)
  clear h
  go_enter Try.func13, Try.ntmps13
  go_wp2_with (fail)
  refine HI.out.mono ?_
  rintro e w1 ⟨rfl, rfl⟩
  go_wp2_with (fail)
  exact bodyPost_ret (v := .tuple #[.slice none 0 0, .int .i64 1]) (by simp [results, Try.results13, go_sem]) rfl ⟨rfl, rfl⟩
theorem forkNo {w : World} {v : Value} (n : Int) (h : NoSrc w v) : Calls Try.prog 15 #[v, .int .i64 n] w fun e w' => e = .returned (.tuple #[.pointer none, .int .i64 1]) ∧ w' = w := by
  have HI := Lib.hid (isNo h)
  clear h
  go_enter Try.func15, Try.ntmps15
  go_wp2_with (fail)
  refine HI.out.mono ?_
  rintro e w1 ⟨rfl, rfl⟩
  go_wp2_with (fail)
  exact bodyPost_ret (v := .tuple #[.pointer none, .int .i64 1]) (by simp [results, Try.results15, go_sem]) rfl ⟨rfl, rfl⟩
theorem copyNo {w : World} {v : Value} (h : NoSrc w v) : Calls Try.prog 18 #[v] w fun e w' => e = .returned (.pointer none) ∧ w' = w := by
  have HI := Lib.hid (isNo h)
  clear h
  go_enter Try.func18, Try.ntmps18
  go_wp2_with (fail)
  refine HI.out.mono ?_
  rintro e w1 ⟨rfl, rfl⟩
  go_wp2_with (fail)
  go_ret
  exact ⟨rfl, rfl⟩
end Go.Proofs.Ytmidoicbbgdchaa
