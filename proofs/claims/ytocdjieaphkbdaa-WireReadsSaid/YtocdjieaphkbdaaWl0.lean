/- Package wire: next: what its deferred closure asks. -/
import Derived.Test.YtocdjieaphkbdaaWk
import Derived.Defers
import Derived.Recover
namespace Go.Proofs.Ytocdjieaphkbdaa
open Go.RowKit

theorem assert_yes (e : Int) (w : World) : (Instr.typeAssert (.iface 25 (.int .i64 e)) 20 25 true).run Try.prog w = .ok (.tuple #[.int .i64 e, .bool true]) w := by
  simp [Instr.typeAssert, run_underlying Try.underlying25, go_sem]
theorem assert_no (w : World) : (Instr.typeAssert .nilIface 20 25 true).run Try.prog w = .ok (.tuple #[.int .i64 0, .bool false]) w := by
  have hz : (zeroValue 25).run Try.prog w = .ok (.int .i64 0) w := by kernel_rfl
  simp [Instr.typeAssert, run_underlying Try.underlying25, go_sem, hz]
end Go.Proofs.Ytocdjieaphkbdaa
