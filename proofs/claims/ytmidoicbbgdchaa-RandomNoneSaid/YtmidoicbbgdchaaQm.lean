/- Package random without a source: the iterator gives nothing and calls nobody. -/
import Derived.Test.YtmidoicbbgdchaaQl
namespace Go.Proofs.Ytmidoicbbgdchaa
open Go.RowKit

theorem loopNo {W : World} {b0 b1 : Nat} {y : Value} (n : Int) (h1 : W.cell? ⟨b1, 0, none⟩ = some (.pointer none)) (h0 : W.cell? ⟨b0, 0, none⟩ = some (.int .i64 n)) :
    Calls Try.prog 25 #[y, .pointer (some ⟨b1, 0, none⟩), .pointer (some ⟨b0, 0, none⟩)] W fun e W' => (∃ v, e = .returned v) ∧ W' = W := by
  have HC := Lib.hid (copyNo (w := W) (v := .pointer none) (.inl rfl))
  have HN := Lib.hid (numberNo (w := W) (v := .pointer none) n (.inl rfl))
  go_enter Try.func25, Try.ntmps25
  go_wp2_with (fail)
  refine HC.out.mono ?_
  rintro e w1 ⟨rfl, rfl⟩
  go_wp2_with (fail)
  go_loopw [5, 6] (fun _ _ wr => wr = w1) (fun _ _ _ => 0)
  case atStart => rfl
  case round =>
    subst hrel
    go_wp2_with (fail)
    refine HN.out.mono ?_
    rintro e w2 ⟨rfl, rfl⟩
    go_wp2_with (fail)
    exact bodyPost_ret (results_none rfl _ _ _) rfl ⟨⟨_, rfl⟩, rfl⟩
end Go.Proofs.Ytmidoicbbgdchaa
