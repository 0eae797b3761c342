/- The statement NumberOf: the walk. -/
import Derived.Test.YtkofhjjfngnmmaaDoorG9
namespace Go.Proofs.YtkofhjjfngnmmaaDoor
open Go.RowKit

set_option maxRecDepth 100000 in
set_option maxHeartbeats 4000000 in
theorem numberOf_any (n : Int) (w : World) (h0 : -9223372036854775808 ≤ n) (h1 : n ≤ 9223372036854775807) (ht : Tens w) :
    Calls Tryd.prog 4 #[.int .i64 n] w fun e w' => e = .returned (.bool true) ∧ Below w.heap.size w w' := by
  have HT := Lib.hid ht
  have H0 := Lib.hid h0
  have H1 := Lib.hid h1
  have HV := Lib.hid (val_yes ⟨h0, h1⟩)
  have hb64 := Lib.hid (show blen n.natAbs ≤ 64 from blen_small (by omega))
  clear ht h0 h1
  go_enter Tryd.func4, Tryd.ntmps4
  go_wp2_with (fail)
  refine (of_num n w H0.out H1.out).mono ?_
  rintro e w1 ⟨⟨x, rfl, j1⟩, q3⟩
  obtain ⟨f1, A1, n1, c1, rfl, j1, -, -⟩ := j1.look
  have V1 := Lib.hid (IntVar.new j1)
  have B := Lib.hid (bstep q3 (below_alloc w1 (.cells #[.bool f1, .slice A1 n1 c1] 24)))
  clear q3 j1
  have hc := V1.out.cells
  have k0 := hc.1
  have k1 := hc.2
  clear hc
  go_wp2_with (fail)
  clear k0 k1
  generalize hW : (w1.alloc (.cells #[.bool f1, .slice A1 n1 c1] 24)) = W1 at *
  clear hW
  generalize w1.heap.size = p1 at *
  refine (value_int _ n W1 V1.out.2 hb64.out).mono ?_
  rw [HV.out.1, HV.out.2]
  rintro e W2 ⟨rfl, q2⟩
  have V1 := Lib.hid (V1.out.step q2)
  have B := Lib.hid (bstep B.out q2)
  clear q2
  go_wp2_with (fail)
  go_cut [2] (fun s wx => s = .bool true ∧ Below W2.heap.size W2 wx)
  case first =>
    go_region_held3 (fun w' => w'.cell? ⟨p1, 0, none⟩ = some (.bool f1) ∧ w'.cell? ⟨p1, 1, none⟩ = some (.slice A1 n1 c1))
      ((first | exact V1.out.cells' (below_drew0 W2) | exact V1.out.cells' hb | exact V1.out.cells' (below_drew0 _)))
      (first
        | (go_at_call 23; refine (of_int n _ H0.out H1.out).mono ?_; rintro e wz ⟨⟨z, rfl, iz⟩, qz⟩; have hb := bstep (below_drew0 W2) qz; clear qz)
        | (go_at_call 22; refine (same_int _ _ n n _ (V1.out.2.step hb) iz).mono ?_; rw [decide_eq_true rfl]; rintro e wy ⟨rfl, qy⟩; have hb := bstep hb qy; clear qy)
        | (go_at_call 12; refine (known_any _ (HT.out.below (bstep B.out hb))).mono ?_; rintro e wy ⟨rfl, qy⟩; have hb := bstep hb qy; clear qy))
    all_goals
      go_wp2_with (fail)
      go_meet
      exact ⟨rfl, hb⟩
  case rest =>
  obtain ⟨rfl, qc⟩ := hcut
  have B := Lib.hid (bstep B.out qc)
  clear qc
  go_wp2_with (fail)
  go_ret
  exact ⟨rfl, B.out⟩
end Go.Proofs.YtkofhjjfngnmmaaDoor
