/- Package wire: the input's methods. -/
import Derived.Test.YtocdjieaphkbdaaWi
namespace Go.Proofs.Ytocdjieaphkbdaa
open Go.RowKit

section
variable {w : World} {g n c k : Nat} {A : Option Addr} {bd : List Int}
set_option maxRecDepth 100000 in
theorem unsigned_any (h : Inp w g A n c bd k) :
    Calls Try.prog 51 #[.pointer (some ⟨g, 0, none⟩)] w (Reads w g A n c bd k (rUint (bd.drop k)) fun v _ x => x = .int .i64 v) := by
  have HG := groups_any (most := 9) h (by decide)
  cases hR : rUint (bd.drop k) with
  | bad e =>
    have hR' : ung 9 0 0 (bd.drop k) = .bad e := hR
    rw [hR'] at HG
    have HG := Lib.hid HG
    clear h hR hR'
    go_enter Try.func51, Try.ntmps51
    go_wp2_with (fail)
    refine HG.out.mono ?_
    rintro e w1 ⟨k1, h1⟩
    simp only at h1
    subst h1
    simp only [pan]
    go_wp2_with (fail)
    exact ⟨rfl, k1, rfl⟩
  | good v m =>
    have hR' : ung 9 0 0 (bd.drop k) = .good v m := hR
    rw [hR'] at HG
    have HG := Lib.hid HG
    obtain ⟨-, -, hv⟩ := rUint_le hR
    have hw : IntKind.i64.wrap (v : Int) = v := by rw [IntKind.wrap_i64]; omega
    clear h hR hR' hv
    go_enter Try.func51, Try.ntmps51
    go_wp2_with (fail)
    refine HG.out.mono ?_
    rintro e w1 ⟨k1, ⟨x, rfl, rfl⟩, h1⟩
    have K1 := Lib.hid k1
    have I1 := Lib.hid h1
    clear k1 h1
    go_wp2_with (fail)
    go_ret
    exact ⟨K1.out, ⟨_, rfl, rfl⟩, I1.out⟩
set_option maxRecDepth 100000 in
set_option maxHeartbeats 1000000 in
theorem signed_any (h : Inp w g A n c bd k) :
    Calls Try.prog 52 #[.pointer (some ⟨g, 0, none⟩)] w (Reads w g A n c bd k (rInt (bd.drop k)) fun v _ x => x = .int .i64 v) := by
  have HG := groups_any (most := 10) h (by decide)
  cases hR : ung 10 0 0 (bd.drop k) with
  | bad e =>
    have hR' : rInt (bd.drop k) = .bad e := by unfold rInt; rw [hR]
    rw [hR] at HG
    rw [hR']
    have HG := Lib.hid HG
    clear h hR hR'
    go_enter Try.func52, Try.ntmps52
    go_wp2_with (fail)
    refine HG.out.mono ?_
    rintro e w1 ⟨k1, h1⟩
    simp only at h1
    subst h1
    simp only [pan]
    go_wp2_with (fail)
    exact ⟨rfl, k1, rfl⟩
  | good v m =>
    have hR' : rInt (bd.drop k) = .good (unf v) m := by unfold rInt; rw [hR]
    have hv := ung_lt64 10 0 0 _ v m (by decide) (by decide) hR
    rw [hR] at HG
    rw [hR']
    have HG := Lib.hid HG
    clear h hR hR'
    by_cases g1 : v % 2 = 1
    · have HU : Hid (unf v = -((v : Int) / 2) - 1) := Lib.hid (by unfold unf; rw [if_pos g1]; omega)
      have t1 : (v : Int) % 2 = 1 := by omega
      have t0 : IntKind.u64.wrap ((v : Int) / 2) = (v : Int) / 2 := by rw [IntKind.wrap_u64]; omega
      have t2 : wrap64 ((v : Int) / 2) = (v : Int) / 2 := by unfold wrap64; omega
      have t3 : wrap64 (-((v : Int) / 2)) = -((v : Int) / 2) := by unfold wrap64; omega
      have t4 : wrap64 (-((v : Int) / 2) - 1) = -((v : Int) / 2) - 1 := by unfold wrap64; omega
      clear hv g1
      go_enter Try.func52, Try.ntmps52
      go_wp2_with (fail)
      refine HG.out.mono ?_
      rintro e w1 ⟨k1, ⟨x, rfl, rfl⟩, h1⟩
      have K1 := Lib.hid k1
      have I1 := Lib.hid h1
      clear k1 h1
      go_wp2_with (fail)
      go_ret
      exact ⟨K1.out, ⟨_, rfl, by rw [HU.out]; exact congrArg (Value.int .i64) t4⟩, I1.out⟩
    · have HU : Hid (unf v = (v : Int) / 2) := Lib.hid (by unfold unf; rw [if_neg g1]; omega)
      have t1 : (v : Int) % 2 = 0 := by omega
      have t0 : IntKind.u64.wrap ((v : Int) / 2) = (v : Int) / 2 := by rw [IntKind.wrap_u64]; omega
      have t2 : wrap64 ((v : Int) / 2) = (v : Int) / 2 := by unfold wrap64; omega
      clear hv g1
      go_enter Try.func52, Try.ntmps52
      go_wp2_with (fail)
      refine HG.out.mono ?_
      rintro e w1 ⟨k1, ⟨x, rfl, rfl⟩, h1⟩
      have K1 := Lib.hid k1
      have I1 := Lib.hid h1
      clear k1 h1
      go_wp2_with (fail)
      go_ret
      exact ⟨K1.out, ⟨_, rfl, by rw [HU.out]; exact congrArg (Value.int .i64) t2⟩, I1.out⟩
theorem byte_at (h : Inp w g A n c bd k) (hk : k < n) : ∃ z : Nat, at_ bd k = z ∧ z < 256 ∧ bd.drop k = (z : Int) :: bd.drop (k + 1) := by
  have h1 : k < bd.length := by rw [h.2.2.1]; exact hk
  have h2 := h.2.2.2.2.2 _ (List.getElem_mem h1)
  have e : at_ bd k = bd[k] := by simp [at_, h1]
  unfold By at h2
  refine ⟨(at_ bd k).toNat, by omega, by omega, ?_⟩
  rw [dropped h1]
  congr 1
  omega
set_option maxRecDepth 100000 in
theorem truth_any (h : Inp w g A n c bd k) :
    Calls Try.prog 54 #[.pointer (some ⟨g, 0, none⟩)] w (Reads w g A n c bd k (rBool (bd.drop k)) fun v _ x => x = .bool v) := by
  rcases Nat.lt_or_ge k n with g1 | g1
  · obtain ⟨z, hz, hz2, hd⟩ := byte_at h g1
    have HO := Lib.hid (one_ok h g1)
    rw [hz] at HO
    by_cases g2 : z ≤ 1
    · have hR : rBool (bd.drop k) = .good ((z : Int) == 1) 1 := by
        rw [hd]
        show (if 1 < (z : Int) then Rd.bad 6 else Rd.good (decide ((z : Int) = 1)) 1) = _
        rw [if_neg (by omega)]
        rfl
      rw [hR]
      have t1 : ¬ (z : Int) > 1 := by omega
      clear h hz hd hR hz2 g2
      go_enter Try.func54, Try.ntmps54
      go_wp2_with (fail)
      refine HO.out.mono ?_
      rintro e w1 ⟨rfl, h1, k1⟩
      have K1 := Lib.hid k1
      have I1 := Lib.hid h1
      clear k1 h1
      go_wp2_with (fail)
      go_ret
      exact ⟨K1.out, ⟨_, rfl, rfl⟩, I1.out⟩
    · have hR : rBool (bd.drop k) = .bad 6 := by
        rw [hd]
        show (if 1 < (z : Int) then Rd.bad 6 else Rd.good (decide ((z : Int) = 1)) 1) = _
        rw [if_pos (by omega)]
      rw [hR]
      have t1 : (z : Int) > 1 := by omega
      clear h hz hd hR hz2 g2
      go_enter Try.func54, Try.ntmps54
      go_wp2_with (fail)
      refine HO.out.mono ?_
      rintro e w1 ⟨rfl, h1, k1⟩
      have K1 := Lib.hid k1
      clear k1 h1
      go_wp2_with (fail)
      exact ⟨rfl, K1.out, rfl⟩
  · obtain rfl : k = n := by have := h.2.2.2.1; omega
    have HO := Lib.hid (one_no h)
    have hR : rBool (bd.drop k) = .bad 4 := by rw [List.drop_of_length_le (by rw [h.2.2.1]; omega)]; rfl
    rw [hR]
    clear h hR
    go_enter Try.func54, Try.ntmps54
    go_wp2_with (fail)
    refine HO.out.mono ?_
    rintro e w1 ⟨rfl, k1⟩
    have K1 := Lib.hid k1
    clear k1
    simp only [pan]
    go_wp2_with (fail)
    exact ⟨rfl, K1.out, rfl⟩
set_option maxRecDepth 100000 in
theorem count_any {lim : Int} (h : Inp w g A n c bd k) :
    Calls Try.prog 56 #[.pointer (some ⟨g, 0, none⟩), .int .i64 lim] w (Reads w g A n c bd k (rCount (bd.drop k) lim) fun v _ x => x = .int .i64 v) := by
  have HG := unsigned_any h
  cases hR : rUint (bd.drop k) with
  | bad e =>
    have hR' : rCount (bd.drop k) lim = .bad e := by unfold rCount; rw [hR]
    rw [hR] at HG
    rw [hR']
    have HG := Lib.hid HG
    clear h hR hR'
    go_enter Try.func56, Try.ntmps56
    go_wp2_with (fail)
    refine HG.out.mono ?_
    rintro e w1 ⟨k1, h1⟩
    simp only at h1
    subst h1
    simp only [pan]
    go_wp2_with (fail)
    exact ⟨rfl, k1, rfl⟩
  | good v m =>
    rw [hR] at HG
    have HG := Lib.hid HG
    by_cases g1 : lim < 0
    · have hR' : rCount (bd.drop k) lim = .bad 2 := by unfold rCount; rw [hR]; simp only; rw [if_pos g1]
      rw [hR']
      clear h hR hR'
      go_enter Try.func56, Try.ntmps56
      go_wp2_with (fail)
      refine HG.out.mono ?_
      rintro e w1 ⟨k1, ⟨x, rfl, rfl⟩, h1⟩
      have K1 := Lib.hid k1
      clear k1 h1
      go_wp2_with (fail)
      exact ⟨rfl, K1.out, rfl⟩
    · by_cases g2 : lim < (v : Int)
      · have hR' : rCount (bd.drop k) lim = .bad 7 := by unfold rCount; rw [hR]; simp only; rw [if_neg g1, if_pos g2]
        rw [hR']
        clear h hR hR'
        go_enter Try.func56, Try.ntmps56
        go_wp2_with (fail)
        refine HG.out.mono ?_
        rintro e w1 ⟨k1, ⟨x, rfl, rfl⟩, h1⟩
        have K1 := Lib.hid k1
        clear k1 h1
        go_wp2_with (fail)
        exact ⟨rfl, K1.out, rfl⟩
      · have hR' : rCount (bd.drop k) lim = .good v m := by unfold rCount; rw [hR]; simp only; rw [if_neg g1, if_neg g2]
        rw [hR']
        clear h hR hR'
        go_enter Try.func56, Try.ntmps56
        go_wp2_with (fail)
        refine HG.out.mono ?_
        rintro e w1 ⟨k1, ⟨x, rfl, rfl⟩, h1⟩
        have K1 := Lib.hid k1
        have I1 := Lib.hid h1
        clear k1 h1
        go_wp2_with (fail)
        go_ret
        exact ⟨K1.out, ⟨_, rfl, rfl⟩, I1.out⟩
end
end Go.Proofs.Ytocdjieaphkbdaa
