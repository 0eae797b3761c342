/- math/bits.Div64. math/bits.Div64, whole. math/bits.Div64, both ways; a limb's division of two limbs. magnitude.divideLimb. magnitude.divide: a divisor that is greater, or of one limb. magnitude.divide: a divisor of one limb. number.Value, over an Int's value. -/
import Derived.Test.YtnkklmbmodkogaaDoorG5
import Derived.Deep.RegionLaw
/-! D1 -/
namespace Go.Proofs.YtnkklmbmodkogaaDoor
open Go.RowKit

/-- What a loop of the division holds. -/
def GuessB (Y Y1 U d q r : Nat) : Prop := Guess Y Y1 U d q r ∧ r < 4294967296 ∧ q < 4294967299
/-- A division by a number of 64 significant bits: its halves. -/
def Halves (Y Y1 Y0 U d : Nat) : Prop := Y = Y1 * 4294967296 + Y0 ∧ Y0 < 4294967296 ∧ Y1 < 4294967296 ∧ 2147483648 ≤ Y1 ∧ U < Y ∧ d < 4294967296
/-- The values that a test forms. -/
def Test (Y0 d q r m n1 n : Nat) : Prop := IntKind.u64.wrap ((q : Int) * (Y0 : Int)) = (m : Nat) ∧ IntKind.u64.wrap (4294967296 * (r : Int)) = (n1 : Nat) ∧ IntKind.u64.wrap ((n1 : Int) + (d : Int)) = (n : Nat)
theorem uw (a : Nat) (ha : a < 18446744073709551616) : IntKind.u64.wrap (a : Int) = (a : Int) := by rw [IntKind.wrap_u64]; omega
theorem test_of {Y0 d q r : Nat} (h0 : Y0 < 4294967296) (hq : q < 4294967296) (hr : r < 4294967296) (hd : d < 4294967296) : Test Y0 d q r (q * Y0) (4294967296 * r) (4294967296 * r + d) := by
  have h : q * Y0 ≤ 4294967295 * 4294967295 := Nat.mul_le_mul (by omega) (by omega)
  refine ⟨?_, ?_, ?_⟩
  · rw [← Int.natCast_mul]; exact uw _ (by omega)
  · rw [show (4294967296 : Int) * (r : Int) = ((4294967296 * r : Nat) : Int) from by omega]; exact uw _ (by omega)
  · rw [← Int.natCast_add]; exact uw _ (by omega)
theorem uw_sub {q : Nat} (h0 : 0 < q) (h : q < 4294967299) : IntKind.u64.wrap ((q : Int) - 1) = ((q - 1 : Nat) : Int) := by rw [IntKind.wrap_u64]; omega
theorem uw_add {r Y1 : Nat} (h0 : r < 4294967296) (h : Y1 < 4294967296) : IntKind.u64.wrap ((r : Int) + (Y1 : Int)) = ((r + Y1 : Nat) : Int) := by rw [IntKind.wrap_u64]; omega
/-- A round of a loop of the division. -/
theorem guess_round {Y Y1 Y0 U d q r : Nat} (h : Halves Y Y1 Y0 U d) (g : GuessB Y Y1 U d q r) :
    (∃ m n1 n, q < 4294967296 ∧ Test Y0 d q r m n1 n ∧ m ≤ n ∧ q = (U * 4294967296 + d) / Y) ∨
    ((4294967296 ≤ q ∨ (q < 4294967296 ∧ ∃ m n1 n, Test Y0 d q r m n1 n ∧ n < m)) ∧ ∃ p, IntKind.u64.wrap ((q : Int) - 1) = (p : Nat) ∧ p < q ∧ ∃ r', IntKind.u64.wrap ((r : Int) + (Y1 : Int)) = (r' : Nat) ∧
      ((4294967296 ≤ r' ∧ p = (U * 4294967296 + d) / Y) ∨ (r' < 4294967296 ∧ GuessB Y Y1 U d p r'))) := by
  obtain ⟨hy, h0, h1, hn, hu, hd⟩ := h
  obtain ⟨g, hr, hq⟩ := g
  have down : (4294967296 ≤ q ∨ r * 4294967296 + d < q * Y0) → ∃ p, IntKind.u64.wrap ((q : Int) - 1) = (p : Nat) ∧ p < q ∧ ∃ r', IntKind.u64.wrap ((r : Int) + (Y1 : Int)) = (r' : Nat) ∧
      ((4294967296 ≤ r' ∧ p = (U * 4294967296 + d) / Y) ∨ (r' < 4294967296 ∧ GuessB Y Y1 U d p r')) := by
    intro ht
    obtain ⟨q0, g'⟩ := guess_down hy g hu hd ht
    refine ⟨q - 1, uw_sub q0 hq, by omega, r + Y1, uw_add hr h1, ?_⟩
    rcases Nat.lt_or_ge (r + Y1) 4294967296 with hl | hl
    · exact .inr ⟨hl, g', hl, by omega⟩
    · exact .inl ⟨hl, guess_break hy g' (by omega) h0 hu hl⟩
  rcases Nat.lt_or_ge q 4294967296 with hl | hl
  · rcases Nat.lt_or_ge (4294967296 * r + d) (q * Y0) with ht | ht
    · exact .inr ⟨.inr ⟨hl, _, _, _, test_of h0 hl hr hd, ht⟩, down (.inr (by omega))⟩
    · exact .inl ⟨_, _, _, hl, test_of h0 hl hr hd, ht, guess_ok hy g (by omega) (by omega)⟩
  · exact .inr ⟨.inl hl, down (.inl hl)⟩

set_option maxRecDepth 100000 in
set_option maxHeartbeats 4000000 in
theorem div64_walk (hi lo y s t Y Y1 Y0 H Lq U L L1 L0 q1 m1 r1 a1 a2 a3 R q0 m0 r0 b1 b2 b3 b4 _b5 V QQ RR D E : Nat) (w : World) (hhi : 0 < hi) (hlt : hi < y)
    (lz : Calls Tryd.prog 94 #[.int .u64 y] w fun e w' => e = .returned (.int .i64 (s : Int)) ∧ w = w')
    (eS : IntKind.u64.wrap (s : Int) = s) (eM : min s 64 = s) (eT : IntKind.u64.wrap (64 - (s : Int)) = (t : Nat)) (eMt : min t 64 = t)
    (eY : IntKind.u64.wrap ((y : Int) * 2 ^ s) = (Y : Nat)) (eY1 : (Y : Int) / 4294967296 = (Y1 : Nat)) (eY0 : bits .and .u64 (Y : Int) 4294967295 = (Y0 : Nat))
    (eH : IntKind.u64.wrap ((hi : Int) * 2 ^ s) = (H : Nat)) (eLq : (lo : Int) / 2 ^ t = (Lq : Nat)) (eU : bits .or .u64 (H : Int) (Lq : Int) = (U : Nat))
    (eL : IntKind.u64.wrap ((lo : Int) * 2 ^ s) = (L : Nat)) (eL1 : (L : Int) / 4294967296 = (L1 : Nat)) (eL0 : bits .and .u64 (L : Int) 4294967295 = (L0 : Nat))
    (hY1 : 0 < Y1)
    (eq1 : (U : Int) / (Y1 : Int) = (q1 : Nat)) (ew1 : IntKind.u64.wrap (q1 : Int) = q1) (em1 : IntKind.u64.wrap ((q1 : Int) * (Y1 : Int)) = (m1 : Nat)) (er1 : IntKind.u64.wrap ((U : Int) - (m1 : Int)) = (r1 : Nat))
    (ea1 : IntKind.u64.wrap ((U : Int) * 4294967296) = (a1 : Nat)) (ea2 : IntKind.u64.wrap ((a1 : Int) + (L1 : Int)) = (a2 : Nat)) (ea3 : IntKind.u64.wrap ((D : Int) * (Y : Int)) = (a3 : Nat)) (eR : IntKind.u64.wrap ((a2 : Int) - (a3 : Int)) = (R : Nat))
    (eq0 : (R : Int) / (Y1 : Int) = (q0 : Nat)) (ew0 : IntKind.u64.wrap (q0 : Int) = q0) (em0 : IntKind.u64.wrap ((q0 : Int) * (Y1 : Int)) = (m0 : Nat)) (er0 : IntKind.u64.wrap ((R : Int) - (m0 : Int)) = (r0 : Nat))
    (eb1 : IntKind.u64.wrap ((R : Int) * 4294967296) = (b1 : Nat)) (eb2 : IntKind.u64.wrap ((b1 : Int) + (L0 : Int)) = (b2 : Nat)) (eb3 : IntKind.u64.wrap ((E : Int) * (Y : Int)) = (b3 : Nat)) (eV : IntKind.u64.wrap ((b2 : Int) - (b3 : Int)) = (V : Nat))
    (eRR : (V : Int) / 2 ^ s = (RR : Nat)) (eb4 : IntKind.u64.wrap ((D : Int) * 4294967296) = (b4 : Nat)) (eQQ : IntKind.u64.wrap ((b4 : Int) + (E : Int)) = (QQ : Nat))
    (hD : Hid (D = (U * 4294967296 + L1) / Y)) (hE : Hid (E = (R * 4294967296 + L0) / Y))
    (H1 : Hid (Halves Y Y1 Y0 U L1)) (H0 : Hid (Halves Y Y1 Y0 R L0)) (G1 : Hid (GuessB Y Y1 U L1 q1 r1)) (G0 : Hid (GuessB Y Y1 R L0 q0 r0)) :
    Calls Tryd.prog 82 #[.int .u64 hi, .int .u64 lo, .int .u64 y] w fun e w' => e = .returned (.tuple #[.int .u64 QQ, .int .u64 RR]) ∧ w = w' := by
  have y0 : (y : Int) ≠ 0 := by omega
  have dy0 : ((y : Int) == 0) = false := by simp; omega
  have dyN : decide (y ≤ hi) = false := by simp; omega
  have hi0 : (hi : Int) ≠ 0 := by omega
  have dh : ((hi : Int) == 0) = false := by simp; omega
  have hY1i : (Y1 : Int) ≠ 0 := by omega
  go_enter Tryd.func82, Tryd.ntmps82
  go_wp2_with (go_at_call 94; refine lz.mono ?_; rintro e w' ⟨rfl, rfl⟩)
  go_loopw [15, 16] (fun a b wr => ∃ q' r' : Nat, a = .int .u64 q' ∧ b = .int .u64 r' ∧ Hid (GuessB Y Y1 U L1 q' r') ∧ w = wr) (fun a _ _ => (intOf a).toNat)
  case atStart => exact ⟨q1, r1, rfl, rfl, G1, rfl⟩
  case round =>
    obtain ⟨qx, rx, rfl, rfl, hgx, rfl⟩ := hrel
    rcases guess_round H1.out hgx.out with ⟨mx, n1x, nx, T0, ⟨Tax, Tbx, Tcx⟩, T1, hqD⟩ | ⟨T, px, epx, hpq, r'x, erx, hR⟩
    · obtain rfl : qx = D := hqD.trans hD.out.symm
      clear hqD
      have d0x : decide ((4294967296 : Int) ≤ (qx : Int)) = false := by simp; omega
      have d2x : decide (nx < mx) = false := by simp; omega
      clear T0 T1
      go_wp2_with (fail)
      go_loopw [18, 16] (fun a b wr => ∃ q' r' : Nat, a = .int .u64 q' ∧ b = .int .u64 r' ∧ Hid (GuessB Y Y1 R L0 q' r') ∧ w = wr) (fun a _ _ => (intOf a).toNat)
      case atStart => exact ⟨q0, r0, rfl, rfl, G0, rfl⟩
      case round =>
        obtain ⟨qz, rz, rfl, rfl, hgz, rfl⟩ := hrel
        rcases guess_round H0.out hgz.out with ⟨mz, n1z, nz, T0, ⟨Taz, Tbz, Tcz⟩, T1, hqD⟩ | ⟨T, pz, epz, hpq, r'z, erz, hR⟩
        · obtain rfl : qz = E := hqD.trans hE.out.symm
          clear hqD
          have d0z : decide ((4294967296 : Int) ≤ (qz : Int)) = false := by simp; omega
          have d2z : decide (nz < mz) = false := by simp; omega
          clear T0 T1
          go_wp2_with (fail)
          first | go_ret2 | go_ret
          exact ⟨rfl, rfl⟩
        · rcases T with T | ⟨T, mz, n1z, nz, ⟨Taz, Tbz, Tcz⟩, T1⟩
          · have d0z : decide ((4294967296 : Int) ≤ (qz : Int)) = true := by simp; omega
            have d1z : (4294967296 : Int) ≤ (qz : Int) := by omega
            clear T
            have HPz := Lib.hid hpq
            clear hpq
            rcases hR with ⟨b1, b2⟩ | ⟨b1, hG⟩
            · have c0z : decide ((4294967296 : Int) ≤ (r'z : Int)) = true := by simp; omega
              have c1z : (4294967296 : Int) ≤ (r'z : Int) := by omega
              obtain rfl : pz = E := b2.trans hE.out.symm
              clear b1 b2
              go_wp2_with (fail)
              first | go_ret2 | go_ret
              exact ⟨rfl, rfl⟩
            · have c0z : decide ((4294967296 : Int) ≤ (r'z : Int)) = false := by simp; omega
              have HG := Lib.hid hG
              clear b1 hG
              go_wp2_with (fail)
              exact ⟨⟨pz, r'z, rfl, rfl, HG, by first | rfl | trivial⟩, by have := HPz.out; simp only [intOf]; omega⟩
          · have d0z : decide ((4294967296 : Int) ≤ (qz : Int)) = false := by simp; omega
            have d1z : decide (nz < mz) = true := by simp; omega
            clear T T1
            have HPz := Lib.hid hpq
            clear hpq
            rcases hR with ⟨b1, b2⟩ | ⟨b1, hG⟩
            · have c0z : decide ((4294967296 : Int) ≤ (r'z : Int)) = true := by simp; omega
              have c1z : (4294967296 : Int) ≤ (r'z : Int) := by omega
              obtain rfl : pz = E := b2.trans hE.out.symm
              clear b1 b2
              go_wp2_with (fail)
              first | go_ret2 | go_ret
              exact ⟨rfl, rfl⟩
            · have c0z : decide ((4294967296 : Int) ≤ (r'z : Int)) = false := by simp; omega
              have HG := Lib.hid hG
              clear b1 hG
              go_wp2_with (fail)
              exact ⟨⟨pz, r'z, rfl, rfl, HG, by first | rfl | trivial⟩, by have := HPz.out; simp only [intOf]; omega⟩
    · rcases T with T | ⟨T, mx, n1x, nx, ⟨Tax, Tbx, Tcx⟩, T1⟩
      · have d0x : decide ((4294967296 : Int) ≤ (qx : Int)) = true := by simp; omega
        have d1x : (4294967296 : Int) ≤ (qx : Int) := by omega
        clear T
        have HPx := Lib.hid hpq
        clear hpq
        rcases hR with ⟨b1, b2⟩ | ⟨b1, hG⟩
        · have c0x : decide ((4294967296 : Int) ≤ (r'x : Int)) = true := by simp; omega
          have c1x : (4294967296 : Int) ≤ (r'x : Int) := by omega
          obtain rfl : px = D := b2.trans hD.out.symm
          clear b1 b2
          go_wp2_with (fail)
          go_loopw [18, 16] (fun a b wr => ∃ q' r' : Nat, a = .int .u64 q' ∧ b = .int .u64 r' ∧ Hid (GuessB Y Y1 R L0 q' r') ∧ w = wr) (fun a _ _ => (intOf a).toNat)
          case atStart => exact ⟨q0, r0, rfl, rfl, G0, rfl⟩
          case round =>
            obtain ⟨qz, rz, rfl, rfl, hgz, rfl⟩ := hrel
            rcases guess_round H0.out hgz.out with ⟨mz, n1z, nz, T0, ⟨Taz, Tbz, Tcz⟩, T1, hqD⟩ | ⟨T, pz, epz, hpq, r'z, erz, hR⟩
            · obtain rfl : qz = E := hqD.trans hE.out.symm
              clear hqD
              have d0z : decide ((4294967296 : Int) ≤ (qz : Int)) = false := by simp; omega
              have d2z : decide (nz < mz) = false := by simp; omega
              clear T0 T1
              go_wp2_with (fail)
              first | go_ret2 | go_ret
              exact ⟨rfl, rfl⟩
            · rcases T with T | ⟨T, mz, n1z, nz, ⟨Taz, Tbz, Tcz⟩, T1⟩
              · have d0z : decide ((4294967296 : Int) ≤ (qz : Int)) = true := by simp; omega
                have d1z : (4294967296 : Int) ≤ (qz : Int) := by omega
                clear T
                have HPz := Lib.hid hpq
                clear hpq
                rcases hR with ⟨b1, b2⟩ | ⟨b1, hG⟩
                · have c0z : decide ((4294967296 : Int) ≤ (r'z : Int)) = true := by simp; omega
                  have c1z : (4294967296 : Int) ≤ (r'z : Int) := by omega
                  obtain rfl : pz = E := b2.trans hE.out.symm
                  clear b1 b2
                  go_wp2_with (fail)
                  first | go_ret2 | go_ret
                  exact ⟨rfl, rfl⟩
                · have c0z : decide ((4294967296 : Int) ≤ (r'z : Int)) = false := by simp; omega
                  have HG := Lib.hid hG
                  clear b1 hG
                  go_wp2_with (fail)
                  exact ⟨⟨pz, r'z, rfl, rfl, HG, by first | rfl | trivial⟩, by have := HPz.out; simp only [intOf]; omega⟩
              · have d0z : decide ((4294967296 : Int) ≤ (qz : Int)) = false := by simp; omega
                have d1z : decide (nz < mz) = true := by simp; omega
                clear T T1
                have HPz := Lib.hid hpq
                clear hpq
                rcases hR with ⟨b1, b2⟩ | ⟨b1, hG⟩
                · have c0z : decide ((4294967296 : Int) ≤ (r'z : Int)) = true := by simp; omega
                  have c1z : (4294967296 : Int) ≤ (r'z : Int) := by omega
                  obtain rfl : pz = E := b2.trans hE.out.symm
                  clear b1 b2
                  go_wp2_with (fail)
                  first | go_ret2 | go_ret
                  exact ⟨rfl, rfl⟩
                · have c0z : decide ((4294967296 : Int) ≤ (r'z : Int)) = false := by simp; omega
                  have HG := Lib.hid hG
                  clear b1 hG
                  go_wp2_with (fail)
                  exact ⟨⟨pz, r'z, rfl, rfl, HG, by first | rfl | trivial⟩, by have := HPz.out; simp only [intOf]; omega⟩
        · have c0x : decide ((4294967296 : Int) ≤ (r'x : Int)) = false := by simp; omega
          have HG := Lib.hid hG
          clear b1 hG
          go_wp2_with (fail)
          exact ⟨⟨px, r'x, rfl, rfl, HG, by first | rfl | trivial⟩, by have := HPx.out; simp only [intOf]; omega⟩
      · have d0x : decide ((4294967296 : Int) ≤ (qx : Int)) = false := by simp; omega
        have d1x : decide (nx < mx) = true := by simp; omega
        clear T T1
        have HPx := Lib.hid hpq
        clear hpq
        rcases hR with ⟨b1, b2⟩ | ⟨b1, hG⟩
        · have c0x : decide ((4294967296 : Int) ≤ (r'x : Int)) = true := by simp; omega
          have c1x : (4294967296 : Int) ≤ (r'x : Int) := by omega
          obtain rfl : px = D := b2.trans hD.out.symm
          clear b1 b2
          go_wp2_with (fail)
          go_loopw [18, 16] (fun a b wr => ∃ q' r' : Nat, a = .int .u64 q' ∧ b = .int .u64 r' ∧ Hid (GuessB Y Y1 R L0 q' r') ∧ w = wr) (fun a _ _ => (intOf a).toNat)
          case atStart => exact ⟨q0, r0, rfl, rfl, G0, rfl⟩
          case round =>
            obtain ⟨qz, rz, rfl, rfl, hgz, rfl⟩ := hrel
            rcases guess_round H0.out hgz.out with ⟨mz, n1z, nz, T0, ⟨Taz, Tbz, Tcz⟩, T1, hqD⟩ | ⟨T, pz, epz, hpq, r'z, erz, hR⟩
            · obtain rfl : qz = E := hqD.trans hE.out.symm
              clear hqD
              have d0z : decide ((4294967296 : Int) ≤ (qz : Int)) = false := by simp; omega
              have d2z : decide (nz < mz) = false := by simp; omega
              clear T0 T1
              go_wp2_with (fail)
              first | go_ret2 | go_ret
              exact ⟨rfl, rfl⟩
            · rcases T with T | ⟨T, mz, n1z, nz, ⟨Taz, Tbz, Tcz⟩, T1⟩
              · have d0z : decide ((4294967296 : Int) ≤ (qz : Int)) = true := by simp; omega
                have d1z : (4294967296 : Int) ≤ (qz : Int) := by omega
                clear T
                have HPz := Lib.hid hpq
                clear hpq
                rcases hR with ⟨b1, b2⟩ | ⟨b1, hG⟩
                · have c0z : decide ((4294967296 : Int) ≤ (r'z : Int)) = true := by simp; omega
                  have c1z : (4294967296 : Int) ≤ (r'z : Int) := by omega
                  obtain rfl : pz = E := b2.trans hE.out.symm
                  clear b1 b2
                  go_wp2_with (fail)
                  first | go_ret2 | go_ret
                  exact ⟨rfl, rfl⟩
                · have c0z : decide ((4294967296 : Int) ≤ (r'z : Int)) = false := by simp; omega
                  have HG := Lib.hid hG
                  clear b1 hG
                  go_wp2_with (fail)
                  exact ⟨⟨pz, r'z, rfl, rfl, HG, by first | rfl | trivial⟩, by have := HPz.out; simp only [intOf]; omega⟩
              · have d0z : decide ((4294967296 : Int) ≤ (qz : Int)) = false := by simp; omega
                have d1z : decide (nz < mz) = true := by simp; omega
                clear T T1
                have HPz := Lib.hid hpq
                clear hpq
                rcases hR with ⟨b1, b2⟩ | ⟨b1, hG⟩
                · have c0z : decide ((4294967296 : Int) ≤ (r'z : Int)) = true := by simp; omega
                  have c1z : (4294967296 : Int) ≤ (r'z : Int) := by omega
                  obtain rfl : pz = E := b2.trans hE.out.symm
                  clear b1 b2
                  go_wp2_with (fail)
                  first | go_ret2 | go_ret
                  exact ⟨rfl, rfl⟩
                · have c0z : decide ((4294967296 : Int) ≤ (r'z : Int)) = false := by simp; omega
                  have HG := Lib.hid hG
                  clear b1 hG
                  go_wp2_with (fail)
                  exact ⟨⟨pz, r'z, rfl, rfl, HG, by first | rfl | trivial⟩, by have := HPz.out; simp only [intOf]; omega⟩
        · have c0x : decide ((4294967296 : Int) ≤ (r'x : Int)) = false := by simp; omega
          have HG := Lib.hid hG
          clear b1 hG
          go_wp2_with (fail)
          exact ⟨⟨px, r'x, rfl, rfl, HG, by first | rfl | trivial⟩, by have := HPx.out; simp only [intOf]; omega⟩
end Go.Proofs.YtnkklmbmodkogaaDoor

/-! D2 -/
namespace Go.Proofs.YtnkklmbmodkogaaDoor
open Go.RowKit

theorem uwm (a : Nat) : IntKind.u64.wrap (a : Int) = ((a % 18446744073709551616 : Nat) : Int) := by rw [IntKind.wrap_u64]; omega
theorem sub_rest {x p R a1 d : Nat} (h : p + R = x + d) (hR : R < 18446744073709551616) (ha : a1 = x % 18446744073709551616) : IntKind.u64.wrap ((((a1 + d) % 18446744073709551616 : Nat) : Int) - ((p % 18446744073709551616 : Nat) : Int)) = (R : Int) := by
  subst ha; rw [IntKind.wrap_u64]; omega
theorem quo_facts {U Y1 : Nat} (hU : U < 18446744073709551616) :
    (U : Int) / (Y1 : Int) = ((U / Y1 : Nat) : Int) ∧ IntKind.u64.wrap ((U / Y1 : Nat) : Int) = ((U / Y1 : Nat) : Int) ∧ IntKind.u64.wrap (((U / Y1 : Nat) : Int) * (Y1 : Int)) = ((U / Y1 * Y1 : Nat) : Int) ∧ IntKind.u64.wrap ((U : Int) - ((U / Y1 * Y1 : Nat) : Int)) = ((U % Y1 : Nat) : Int) := by
  have h1 := Nat.div_le_self U Y1
  have h2 := Nat.div_mul_le_self U Y1
  have h3 := Nat.div_add_mod U Y1
  rw [Nat.mul_comm] at h3
  have h4 := Nat.mod_le U Y1
  refine ⟨(Int.natCast_ediv U Y1).symm, uw _ (by omega), ?_, ?_⟩
  · rw [← Int.natCast_mul]; exact uw _ (by omega)
  · rw [show (U : Int) - ((U / Y1 * Y1 : Nat) : Int) = ((U % Y1 : Nat) : Int) from by omega]; exact uw _ (by omega)
theorem guessB_start {Y Y1 Y0 U d : Nat} (h : Halves Y Y1 Y0 U d) : GuessB Y Y1 U d (U / Y1) (U % Y1) := by
  obtain ⟨hy, h0, h1, hn, hu, hd⟩ := h
  have := Nat.mod_lt U (show 0 < Y1 by omega)
  exact ⟨guess_start hy (by omega) hd, by omega, guess_b hy hn h0 hu⟩
theorem rest_facts {Y U d D R : Nat} (hD : D = (U * 4294967296 + d) / Y) (hR : R = (U * 4294967296 + d) % Y) (hY : R < 18446744073709551616) :
    IntKind.u64.wrap ((U : Int) * 4294967296) = ((U * 4294967296 % 18446744073709551616 : Nat) : Int) ∧
    IntKind.u64.wrap (((U * 4294967296 % 18446744073709551616 : Nat) : Int) + (d : Int)) = (((U * 4294967296 % 18446744073709551616 + d) % 18446744073709551616 : Nat) : Int) ∧
    IntKind.u64.wrap ((D : Int) * (Y : Int)) = ((D * Y % 18446744073709551616 : Nat) : Int) ∧
    IntKind.u64.wrap ((((U * 4294967296 % 18446744073709551616 + d) % 18446744073709551616 : Nat) : Int) - ((D * Y % 18446744073709551616 : Nat) : Int)) = (R : Int) := by
  have h3 := Nat.div_add_mod (U * 4294967296 + d) Y
  rw [← hD, ← hR, Nat.mul_comm] at h3
  refine ⟨?_, ?_, ?_, sub_rest h3 hY rfl⟩
  · rw [show (U : Int) * 4294967296 = ((U * 4294967296 : Nat) : Int) from by omega]; exact uwm _
  · rw [← Int.natCast_add]; exact uwm _
  · rw [← Int.natCast_mul]; exact uwm _
theorem rest_ex {Y U d : Nat} (hy : 0 < Y) (hY : Y < 18446744073709551616) (hu : U < Y) (hd : d < 4294967296) : ∃ D R a1 a2 a3 : Nat, D = (U * 4294967296 + d) / Y ∧ R = (U * 4294967296 + d) % Y ∧ R < Y ∧ D < 4294967296 ∧
    IntKind.u64.wrap ((U : Int) * 4294967296) = (a1 : Int) ∧ IntKind.u64.wrap ((a1 : Int) + (d : Int)) = (a2 : Int) ∧ IntKind.u64.wrap ((D : Int) * (Y : Int)) = (a3 : Int) ∧ IntKind.u64.wrap ((a2 : Int) - (a3 : Int)) = (R : Int) := by
  have h := Nat.mod_lt (U * 4294967296 + d) hy
  obtain ⟨f1, f2, f3, f4⟩ := rest_facts (Y := Y) (U := U) (d := d) rfl rfl (by omega)
  exact ⟨_, _, _, _, _, rfl, rfl, h, digit_lt hu hd, f1, f2, f3, f4⟩
theorem two_digits_ex {Y U L D R E V : Nat} (hy : 0 < Y) (hD : D = (U * 4294967296 + L / 4294967296) / Y) (hR : R = (U * 4294967296 + L / 4294967296) % Y) (hE : E = (R * 4294967296 + L % 4294967296) / Y) (hV : V = (R * 4294967296 + L % 4294967296) % Y) :
    D * 4294967296 + E = (U * 18446744073709551616 + L) / Y ∧ V = (U * 18446744073709551616 + L) % Y := by
  have td := two_digits (y := Y) (u := U) (d1 := L / 4294967296) (d0 := L % 4294967296) hy
  rw [show L / 4294967296 * 4294967296 + L % 4294967296 = L from by omega, ← hD, ← hR, ← hE, ← hV] at td
  exact td
theorem or_disj {hi Lq s : Nat} (h : Lq < 2 ^ s) (h1 : hi * 2 ^ s < 18446744073709551616) (h2 : Lq < 18446744073709551616) : bits .or .u64 ((hi * 2 ^ s : Nat) : Int) (Lq : Int) = ((hi * 2 ^ s + Lq : Nat) : Int) := by
  rw [bits_or_u64_nat _ _ h1 h2, Nat.mul_comm hi, Nat.two_pow_add_eq_or_of_lt h]
theorem bit_range {y : Nat} (h0 : 0 < y) (hy : y < 18446744073709551616) : ∃ s : Nat, s ≤ 63 ∧ (64 - (Lib.bitLen y : Int)) = (s : Int) ∧ 9223372036854775808 ≤ y * 2 ^ s ∧ y * 2 ^ s < 18446744073709551616 := by
  obtain ⟨b1, b2, b3⟩ := Lib.bitLenAux_bounds 64 y hy (by omega)
  have b4 := Lib.bitLen_le y 64 (by omega) hy
  have e : Lib.bitLenAux 64 y = Lib.bitLen y := rfl
  rw [e] at b1 b2 b3
  generalize Lib.bitLen y = n at *
  refine ⟨64 - n, by omega, by omega, ?_, ?_⟩
  · have : 2 ^ (n - 1) * 2 ^ (64 - n) ≤ y * 2 ^ (64 - n) := Nat.mul_le_mul_right _ b2
    rw [← Nat.pow_add, show n - 1 + (64 - n) = 63 from by omega] at this
    exact this
  · have : y * 2 ^ (64 - n) < 2 ^ n * 2 ^ (64 - n) := Nat.mul_lt_mul_of_pos_right b3 (Nat.two_pow_pos _)
    rw [← Nat.pow_add, show n + (64 - n) = 64 from by omega] at this
    exact this
theorem maskN (a : Nat) (ha : a < 18446744073709551616) : bits .and .u64 (a : Int) 4294967295 = ((a % 4294967296 : Nat) : Int) := by
  have h := bits_and_u64_nat a 4294967295 ha (by omega)
  have e : a &&& 4294967295 = a % 4294967296 := Nat.and_two_pow_sub_one_eq_mod a 32
  rw [e] at h
  exact h
theorem mul_pow_cast (a s : Nat) : (a : Int) * 2 ^ s = ((a * 2 ^ s : Nat) : Int) := by rw [Int.natCast_mul, Int.natCast_pow]; rfl
theorem div_pow_cast (a s : Nat) : (a : Int) / 2 ^ s = ((a / 2 ^ s : Nat) : Int) := by rw [Int.natCast_ediv, Int.natCast_pow]; rfl
theorem halves_of {Y U d : Nat} (h1 : 9223372036854775808 ≤ Y) (h2 : Y < 18446744073709551616) (hu : U < Y) (hd : d < 4294967296) : Halves Y (Y / 4294967296) (Y % 4294967296) U d := by
  refine ⟨by omega, by omega, by omega, by omega, hu, hd⟩
theorem quo_two {D E : Nat} (hD : D < 4294967296) (hE : E < 4294967296) : IntKind.u64.wrap ((D : Int) * 4294967296) = ((D * 4294967296 : Nat) : Int) ∧ IntKind.u64.wrap (((D * 4294967296 : Nat) : Int) + (E : Int)) = ((D * 4294967296 + E : Nat) : Int) := by
  refine ⟨?_, ?_⟩
  · rw [show (D : Int) * 4294967296 = ((D * 4294967296 : Nat) : Int) from by omega]; exact uw _ (by omega)
  · rw [← Int.natCast_add]; exact uw _ (by omega)

set_option maxRecDepth 100000 in
theorem div64_big (hi lo y : Nat) (w : World) (h0 : 0 < hi) (hy : y < 18446744073709551616) (hlt : hi < y) (hl : lo < 18446744073709551616) :
    Calls Tryd.prog 82 #[.int .u64 hi, .int .u64 lo, .int .u64 y] w fun e w' => e = .returned (.tuple #[.int .u64 (((hi * 18446744073709551616 + lo) / y : Nat)), .int .u64 (((hi * 18446744073709551616 + lo) % y : Nat))]) ∧ w = w' := by
  obtain ⟨s, hs, es, hY0, hY⟩ := bit_range (show 0 < y by omega) hy
  obtain ⟨hUY, hUL, hLq, hH⟩ := shifted hs hY hlt hl
  obtain ⟨u1, u2⟩ := unshift (N := hi * 18446744073709551616 + lo) (s := s) (show 0 < y by omega)
  rw [← hUL] at u1 u2
  have hyp : 0 < y * 2 ^ s := by omega
  have lz : Calls Tryd.prog 94 #[.int .u64 y] w fun e w' => e = .returned (.int .i64 (s : Int)) ∧ w = w' := by
    refine (Tryd.bits_LeadingZeros64 y w (by omega) (by omega)).mono ?_
    rintro e w' ⟨rfl, rfl⟩
    exact ⟨by rw [← es]; rfl, rfl⟩
  have hLb : lo * 2 ^ s % 18446744073709551616 < 18446744073709551616 := Nat.mod_lt _ (by omega)
  have hLqb : lo / 2 ^ (64 - s) < 18446744073709551616 := Nat.lt_of_le_of_lt (Nat.div_le_self _ _) hl
  have eor := or_disj hLq hH hLqb
  have yc := mul_pow_cast y s
  have hc := mul_pow_cast hi s
  have lc := mul_pow_cast lo s
  have dc := div_pow_cast lo (64 - s)
  generalize hYg : y * 2 ^ s = Y at *
  generalize hHg : hi * 2 ^ s = H at *
  generalize hLg : lo * 2 ^ s % 18446744073709551616 = L at *
  generalize hQg : lo / 2 ^ (64 - s) = Lq at *
  have eL := uwm (lo * 2 ^ s)
  rw [hLg] at eL
  generalize hUg : H + Lq = U at *
  have hh1 := halves_of hY0 hY hUY (show L / 4294967296 < 4294967296 by omega)
  obtain ⟨D, R, a1, a2, a3, hDg, hRg, hRY, hD4, f1, f2, f3, f4⟩ := rest_ex hyp hY hUY (show L / 4294967296 < 4294967296 by omega)
  have hh0 := halves_of hY0 hY hRY (show L % 4294967296 < 4294967296 by omega)
  obtain ⟨E, V, c1, c2, c3, hEg, hVg, _, hE4, k1, k2, k3, k4⟩ := rest_ex hyp hY hRY (show L % 4294967296 < 4294967296 by omega)
  have td := two_digits_ex hyp hDg hRg hEg hVg
  obtain ⟨g1, g2⟩ := quo_two hD4 hE4
  obtain ⟨q1, q2, q3, q4⟩ := quo_facts (U := U) (Y1 := Y / 4294967296) (by omega)
  obtain ⟨p1, p2, p3, p4⟩ := quo_facts (U := R) (Y1 := Y / 4294967296) (by omega)
  have hw := div64_walk hi lo y s (64 - s) Y (Y / 4294967296) (Y % 4294967296) H Lq U L (L / 4294967296) (L % 4294967296)
    (U / (Y / 4294967296)) (U / (Y / 4294967296) * (Y / 4294967296)) (U % (Y / 4294967296)) _ _ _ R
    (R / (Y / 4294967296)) (R / (Y / 4294967296) * (Y / 4294967296)) (R % (Y / 4294967296)) _ _ _ _ 0 V _ (V / 2 ^ s) D E w h0 hlt lz
    (uw _ (by omega)) (by omega) (by rw [show (64 : Int) - (s : Int) = ((64 - s : Nat) : Int) from by omega]; exact uw _ (by omega)) (by omega)
    (by rw [yc]; exact uw _ hY) (by omega) (maskN _ hY)
    (by rw [hc]; exact uw _ hH) dc eor
    (by rw [lc]; exact eL) (by omega) (maskN _ hLb) (by omega)
    q1 q2 q3 q4 f1 f2 f3 f4 p1 p2 p3 p4 k1 k2 k3 k4 (div_pow_cast V s) g1 g2
    (Lib.hid hDg) (Lib.hid hEg) (Lib.hid hh1) (Lib.hid hh0) (Lib.hid (guessB_start hh1)) (Lib.hid (guessB_start hh0))
  refine hw.mono ?_
  rintro e w' ⟨rfl, rfl⟩
  refine ⟨?_, rfl⟩
  rw [td.1, u1, td.2, u2]
end Go.Proofs.YtnkklmbmodkogaaDoor

/-! D3 -/
namespace Go.Proofs.YtnkklmbmodkogaaDoor
open Go.RowKit

set_option maxRecDepth 100000 in
set_option maxHeartbeats 4000000 in
theorem div64_small (lo y a b : Nat) (w : World) (hy : 0 < y) (ha : IntKind.u64.wrap ((lo : Int) / (y : Int)) = (a : Int)) (hb : (lo : Int) % (y : Int) = (b : Int)) :
    Calls Tryd.prog 82 #[.int .u64 0, .int .u64 lo, .int .u64 y] w fun e w' => e = .returned (.tuple #[.int .u64 a, .int .u64 b]) ∧ ∃ k, w' = w.drewN k := by
  have y0 : (y : Int) ≠ 0 := by omega
  have yN : ¬ y = 0 := by omega
  have yB : (y == 0) = false := by simp; omega
  have dyN : decide (y ≤ 0) = false := by simp; omega
  have dyM : decide (y = 0) = false := by simp; omega
  have dy0 : ((y : Int) == 0) = false := by simp; omega
  have dy1 : decide ((y : Int) ≤ 0) = false := by simp; omega
  go_enter Tryd.func82, Tryd.ntmps82
  go_wp2_with (fail)
  go_quiet (fail)
  go_wp2_with (fail)
  go_ret2
  exact ⟨by simp [hb], _, rfl⟩

theorem div64 (hi lo y : Nat) (w : World) (hy : y < 18446744073709551616) (hlt : hi < y) (hl : lo < 18446744073709551616) :
    Calls Tryd.prog 82 #[.int .u64 hi, .int .u64 lo, .int .u64 y] w fun e w' => e = .returned (.tuple #[.int .u64 (((hi * 18446744073709551616 + lo) / y : Nat)), .int .u64 (((hi * 18446744073709551616 + lo) % y : Nat))]) ∧ ∃ k, w' = w.drewN k := by
  rcases Nat.eq_zero_or_pos hi with h0 | h0
  · subst h0
    have := Nat.div_le_self lo y
    refine (div64_small lo y (lo / y) (lo % y) w (by omega) (by rw [← Int.natCast_ediv]; exact uw _ (by omega)) (by rw [← Int.natCast_emod])).mono ?_
    rintro e w' ⟨rfl, hb⟩
    exact ⟨by rw [Nat.zero_mul, Nat.zero_add], hb⟩
  · refine (div64_big hi lo y w h0 hy hlt hl).mono ?_
    rintro e w' ⟨rfl, rfl⟩
    exact ⟨rfl, 0, rfl⟩
end Go.Proofs.YtnkklmbmodkogaaDoor

/-! D4 -/
namespace Go.Proofs.YtnkklmbmodkogaaDoor
open Go.RowKit

theorem mixl_down (f g : Nat → Int) (k : Nat) : (mixl f g (k + 1)).set k (g k) = mixl f g k := by
  apply List.ext_getElem
  · simp
  · intro j h1 h2
    simp only [List.length_set, mixl_len] at h1
    rw [List.getElem_set]
    simp only [mixl, List.getElem_map, List.getElem_range]
    split
    · subst j; rw [if_neg (by omega)]
    · by_cases hj : j < k
      · rw [if_pos hj, if_pos (by omega)]
      · rw [if_neg hj, if_neg (by omega)]
theorem mixl_get_lt (f g : Nat → Int) (k j : Nat) (h : j < 8) (hk : j < k) : (mixl f g k)[j]?.getD 0 = f j := by simp [mixl, h, hk]
theorem mixl_top {u n t : Nat} (h : u < 18446744073709551616 ^ t) : mixl (limb u) (limb (u / n)) t = lm u := by
  unfold mixl lm
  apply List.map_congr_left
  intro j _
  split
  · rfl
  · have hj : 18446744073709551616 ^ t ≤ 18446744073709551616 ^ j := Nat.pow_le_pow_right (by omega) (by omega)
    have h1 : u < 18446744073709551616 ^ j := by omega
    have h2 : u / n < 18446744073709551616 ^ j := Nat.lt_of_le_of_lt (Nat.div_le_self _ _) h1
    unfold limb
    rw [Nat.div_eq_of_lt h1, Nat.div_eq_of_lt h2]
/-- A step of the division by one limb, over any base. -/
theorem limb_step (u n W k : Nat) (hn : 0 < n) (hW : 0 < W) (_hnW : n ≤ W) :
    (u / W ^ (k + 1) % n * W + u / W ^ k % W) / n = u / n / W ^ k % W ∧ (u / W ^ (k + 1) % n * W + u / W ^ k % W) % n = u / W ^ k % n := by
  have e1 : u / W ^ (k + 1) = u / W ^ k / W := by rw [Nat.pow_succ, Nat.div_div_eq_div_mul]
  have e2 : u / n / W ^ k = u / W ^ k / n := by rw [Nat.div_div_eq_div_mul, Nat.div_div_eq_div_mul, Nat.mul_comm]
  rw [e1, e2]
  generalize u / W ^ k = x
  have h1 := Nat.div_add_mod x W
  have h2 := Nat.div_add_mod (x / W) n
  have h3 : x = n * (x / W / n * W) + (x / W % n * W + x % W) := by
    have h4 : W * (x / W) = n * (x / W / n * W) + x / W % n * W := by
      calc W * (x / W) = (x / W) * W := Nat.mul_comm _ _
        _ = (n * (x / W / n) + x / W % n) * W := by rw [h2]
        _ = n * (x / W / n * W) + x / W % n * W := by rw [Nat.add_mul, Nat.mul_assoc]
    omega
  have h5 : x / W % n < n := Nat.mod_lt _ hn
  have h6 : x % W < W := Nat.mod_lt _ hW
  have h7 : x / W % n * W + x % W < n * W := by
    have : (x / W % n + 1) * W ≤ n * W := Nat.mul_le_mul_right W h5
    rw [Nat.add_mul, Nat.one_mul] at this
    omega
  have h8 : (x / W % n * W + x % W) / n < W := (Nat.div_lt_iff_lt_mul hn).2 (by rw [Nat.mul_comm W]; exact h7)
  generalize hA : x / W % n * W + x % W = A at *
  generalize x / W / n = B at *
  have h9 : x / n = B * W + A / n := by rw [h3, Nat.mul_add_div hn]
  refine ⟨?_, ?_⟩
  · rw [h9, Nat.mul_comm, Nat.mul_add_mod, Nat.mod_eq_of_lt h8]
  · rw [h3, Nat.mul_add_mod]
def limbN (u k : Nat) : Nat := u / 18446744073709551616 ^ k % 18446744073709551616
theorem limb_eqN (u k : Nat) : limb u k = (limbN u k : Int) := rfl
def remN (u n k : Nat) : Nat := u / 18446744073709551616 ^ k % n
theorem div_limb_call (u n k : Nat) (w : World) (hn : 0 < n) (hn64 : n < 18446744073709551616) :
    Calls Tryd.prog 82 #[.int .u64 (remN u n (k + 1)), .int .u64 (limb u k), .int .u64 n] w fun e w' => e = .returned (.tuple #[.int .u64 (limb (u / n) k), .int .u64 (remN u n k)]) ∧ ∃ q, w' = w.drewN q := by
  obtain ⟨h1, h2⟩ := limb_step u n 18446744073709551616 k hn (by omega) (by omega)
  have hl : u / 18446744073709551616 ^ k % 18446744073709551616 < 18446744073709551616 := Nat.mod_lt _ (by omega)
  refine (div64 (remN u n (k + 1)) (limbN u k) n w hn64 (Nat.mod_lt _ hn) hl).mono ?_
  rintro e w' ⟨rfl, q, rfl⟩
  refine ⟨?_, q, rfl⟩
  unfold remN limbN limb
  rw [h1, h2]

set_option maxRecDepth 100000 in
set_option maxHeartbeats 1000000 in
theorem divLimb_mag (u n : Nat) (w : World) (hu : u < 18446744073709551616 ^ 8) (hn : 0 < n) (hn64 : n < 18446744073709551616) :
    Calls Tryd.prog 69 #[.agg (mag (lm u)), .int .u64 n] w fun e w' => e = .returned (.tuple #[.agg (mag (lm (u / n))), .int .u64 ((u % n : Nat) : Int)]) ∧ Below w.heap.size w w' := by
  obtain ⟨hv0, hv1, hbW, hsz⟩ := boxes2 w 56 56 (mag (lm u)) (mag [0, 0, 0, 0, 0, 0, 0, 0])
  have HT := Lib.hid (top_lm_lt hu)
  have HN := Lib.hid hn64
  have htl : top (lm u) ≤ 8 := by have := top_le (lm u); simpa using this
  clear hu hn64
  rw [zero8] at hv1 hv0 hbW hsz
  go_enter Tryd.func69, Tryd.ntmps69
  go_wp2_with (first | (refine ldm rfl _ rfl _ rfl _ hv0 (lm_len _) ?_) | (go_at_call 43; refine (length_any _ _ (lm_len _)).mono ?_; rintro e w' ⟨rfl, hbl⟩))
  have hlt : w.heap.size + 1 < w'.heap.size := by have := hbl.size; omega
  have hm0 : Box w' w.heap.size 56 (lm u) := hv0.below hbl (by omega)
  have hr0 : Box w' (w.heap.size + 1) 56 [0, 0, 0, 0, 0, 0, 0, 0] := hv1.below hbl (by omega)
  have HB0 := Lib.hid (hbW.trans (hbl.mono (by omega)))
  clear hbl hbW hv0 hv1 hsz
  have hst : (0 : Int) = (remN u n (top (lm u)) : Int) := by unfold remN; rw [Nat.div_eq_of_lt HT.out, Nat.zero_mod]; rfl
  have HS := Lib.hid hst
  clear hst
  generalize top (lm u) = t at *
  go_loopw [6, 7] (fun r i wr => ∃ k : Nat, k ≤ t ∧ i = .int .i64 ((k : Int) - 1) ∧ r = .int .u64 (remN u n k) ∧ Box wr w.heap.size 56 (mixl (limb u) (limb (u / n)) k) ∧ Box wr (w.heap.size + 1) 56 [0, 0, 0, 0, 0, 0, 0, 0] ∧ Below w.heap.size w wr) (fun _ i _ => (intOf i + 1).toNat)
  case atStart => exact ⟨t, Nat.le_refl _, rfl, by rw [← HS.out], by rw [mixl_top HT.out]; exact hm0, hr0, HB0.out⟩
  case round =>
    obtain ⟨k, hk, rfl, rfl, hx, hz, hb⟩ := hrel
    clear hm0 hr0
    by_cases h0 : 0 < k
    · obtain ⟨j, rfl⟩ : ∃ j, k = j + 1 := ⟨k - 1, by omega⟩
      have ej : ((j + 1 : Nat) : Int) - 1 = j := by omega
      have j0 : (0 : Int) ≤ j := by omega
      have j8 : (j : Int) < 8 := by omega
      have c1 := hx.cell j (by simp; omega)
      rw [mixl_get_lt _ _ _ _ (by omega) (Nat.lt_succ_self j)] at c1
      have z1 := hx.free j
      have HX := Lib.hid (fun q : Nat => (show Box (wr.drewN q) w.heap.size 56 _ from hx).set_ j (limb (u / n) j))
      rw [mixl_down] at HX
      have HZ := Lib.hid (fun q : Nat => (show Box (wr.drewN q) (w.heap.size + 1) 56 _ from hz).far (p := ⟨w.heap.size, j, none⟩) (by simp) (.int .u64 (limb (u / n) j)))
      have HB := Lib.hid (fun q : Nat => (below_drewN hb q).setCell (p := ⟨w.heap.size, j, none⟩) (Nat.le_refl _) (.int .u64 (limb (u / n) j)))
      have HC := Lib.hid (fun W : World => div_limb_call u n j W hn HN.out)
      obtain ⟨l0, l1⟩ := limb_w u j
      clear hx hz hb
      rw [ej]
      go_wp2_with (go_at_call 82; refine (HC.out _).mono ?_; rintro e w' ⟨rfl, qd, rfl⟩)
      exact ⟨⟨j, by omega, rfl, rfl, HX.out qd, HZ.out qd, HB.out qd⟩, by simp only [intOf]; omega⟩
    · obtain rfl : k = 0 := by omega
      rw [mixl_zero] at hx
      have e0 : ((0 : Nat) : Int) - 1 = -1 := rfl
      rw [e0]
      have HR := Lib.hid (show (remN u n 0 : Int) = ((u % n : Nat) : Int) by unfold remN; rw [Nat.pow_zero, Nat.div_one])
      have HX := Lib.hid (show Box wr w.heap.size 56 (lm (u / n)) from hx)
      have HZ := Lib.hid hz
      have HB2 := Lib.hid (below_setRow (g := w.heap.size + 1) (cs := mag (lm (u / n))) hb (by omega))
      clear hx hz hb
      go_wp2_with (first | (refine ldm rfl _ rfl _ rfl _ HX.out (lm_len _) ?_) | (refine stm rfl _ _ rfl _ rfl _ _ rfl HZ.out (lm_len _) rfl ?_))
      rw [← HR.out]
      exact bodyPost_ret (res_mag_tmp rfl _ _ (w.heap.size + 1) (lm (u / n)) (.int .u64 (remN u n 0)) rfl rfl HZ.out.setRow (lm_len _)) rfl ⟨rfl, HB2.out⟩
end Go.Proofs.YtnkklmbmodkogaaDoor

/-! Dv1 -/
namespace Go.Proofs.YtnkklmbmodkogaaDoor
open Go.RowKit

theorem res_mag2 {fn : Func} {p q : Tmp} (h : fn.results = #[.cell p 56, .cell q 56]) (tmps : Array Value) (w : World) (g k : Nat) (xs ys : List Int)
    (hp : tmps.getD p undef = .pointer (some ⟨g, 0, none⟩)) (hq : tmps.getD q undef = .pointer (some ⟨k, 0, none⟩)) (hb : Box w g 56 xs) (h8 : xs.length = 8) (hb' : Box w k 56 ys) (h8' : ys.length = 8) :
    (results fn tmps).run Tryd.prog w = .ok (.tuple #[.agg (mag xs), .agg (mag ys)]) w := by
  have hp' : tmps[p]?.getD undef = .pointer (some ⟨g, 0, none⟩) := by simpa using hp
  have hq' : tmps[q]?.getD undef = .pointer (some ⟨k, 0, none⟩) := by simpa using hq
  simp [results, h, hp', hq', asAddr, run_loadVar_row (P := Tryd.prog) w g 56 56 (mag xs) (0, 0) _ hb Tryd.underlying56 rfl (info8 xs h8), run_loadVar_row (P := Tryd.prog) w k 56 56 (mag ys) (0, 0) _ hb' Tryd.underlying56 rfl (info8 ys h8')]

/-- A magnitude is read, or stored, inside a region that draws its order. -/
theorem step_ldm {ops : Array Oper} {o : Oper} {a : Act} {w : World} {K : Act → World → Prop} {Q : Exit → Act → World → Prop} {E : Prop} (hgd : o.guard = none) (x : Operand) (ho : o.op = .load 56 x)
    (g : Nat) (hx : a.eval x = .pointer (some ⟨g, 0, none⟩)) (xs : List Int) (hb : Box w g 56 xs) (h8 : xs.length = 8)
    (hK : K (a.put o.dst (.agg (mag xs))) w) : if Region.wanted o (yielded ops a.tmps) = true then Oper.wp Tryd.prog o a w K Q else E := by
  have hw : Region.wanted o (yielded ops a.tmps) = true := by simp [Region.wanted, hgd]
  rw [if_pos hw]
  exact wp_load_row 56 x ho g hx 56 (mag xs) (0, 0) _ hb Tryd.underlying56 rfl (info8 xs h8) hK
theorem step_stm {ops : Array Oper} {o : Oper} {a : Act} {w : World} {K : Act → World → Prop} {Q : Exit → Act → World → Prop} {E : Prop} (hgd : o.guard = none) (x y : Operand) (ho : o.op = .store 56 x y)
    (g : Nat) (hx : a.eval x = .pointer (some ⟨g, 0, none⟩)) (ys xs : List Int) (hy : a.eval y = .agg (mag xs)) (hb : Box w g 56 ys) (h8 : xs.length = 8) (h8' : ys.length = 8)
    (hK : K (a.put o.dst undef) (w.setRow g (mag xs))) : if Region.wanted o (yielded ops a.tmps) = true then Oper.wp Tryd.prog o a w K Q else E := by
  have hw : Region.wanted o (yielded ops a.tmps) = true := by simp [Region.wanted, hgd]
  rw [if_pos hw]
  exact wp_store_row 56 x y ho g (mag xs) hx hy 56 (mag ys) hb (info8 xs h8) (by rw [mag_size, mag_size, h8, h8']) (mag_one xs) hK

set_option maxRecDepth 100000 in
set_option maxHeartbeats 1000000 in
theorem divide_less (u v : Nat) (w : World) (huv : u < v) (hu : u < 18446744073709551616 ^ 8) (hv : v < 18446744073709551616 ^ 8) :
    Calls Tryd.prog 56 #[.agg (mag (lm u)), .agg (mag (lm v))] w fun e w' => e = .returned (.tuple #[.agg (mag (lm 0)), .agg (mag (lm u))]) ∧ Below w.heap.size w w' := by
  obtain ⟨hv0, hv1, hv2, hv3, hbW, hsz⟩ := boxes4 w 56 56 56 56 (mag (lm u)) (mag (lm v)) (mag [0, 0, 0, 0, 0, 0, 0, 0]) (mag [0, 0, 0, 0, 0, 0, 0, 0])
  have HC := Lib.hid (fun w => compare_mag u v w hu hv)
  have HU := Lib.hid hu
  have hcmp := cmpN_lt huv
  clear hu hv
  rw [zero8] at *
  go_enter Tryd.func56, Tryd.ntmps56
  go_wp2_with (first | (refine ldm rfl _ rfl _ rfl _ hv0 (lm_len _) ?_) | (refine ldm rfl _ rfl _ rfl _ hv1 (lm_len _) ?_))
  generalize (((w.alloc (.cells (mag (lm u)) 56)).alloc (.cells (mag (lm v)) 56)).alloc (.cells #[.int .u64 0, .int .u64 0, .int .u64 0, .int .u64 0, .int .u64 0, .int .u64 0, .int .u64 0, .int .u64 0] 56)).alloc (.cells #[.int .u64 0, .int .u64 0, .int .u64 0, .int .u64 0, .int .u64 0, .int .u64 0, .int .u64 0, .int .u64 0] 56) = W at *
  refine (HC.out _).mono ?_
  rintro e w1 ⟨rfl, q1⟩
  rw [hcmp]
  have hlt : w.heap.size + 3 < W.heap.size := by omega
  have m0 : Box w1 w.heap.size 56 (lm u) := hv0.below q1 (by omega)
  have z2 : Box w1 (w.heap.size + 2) 56 [0, 0, 0, 0, 0, 0, 0, 0] := hv2.below q1 (by omega)
  have z3 : Box w1 (w.heap.size + 3) 56 [0, 0, 0, 0, 0, 0, 0, 0] := hv3.below q1 (by omega)
  have HB := Lib.hid (hbW.trans (q1.mono (by omega)))
  clear hv0 hv1 hv2 hv3 q1 hbW hsz HC
  have HM := Lib.hid m0
  have HZ2 := Lib.hid z2
  have HZ3 := Lib.hid z3
  clear m0 z2 z3
  go_wp2_with (first | (refine ldm rfl _ rfl _ rfl _ HM.out (lm_len _) ?_) | (refine stm rfl _ _ rfl _ rfl _ [0, 0, 0, 0, 0, 0, 0, 0] rfl HZ2.out rfl rfl ?_) | (refine stm rfl _ _ rfl _ rfl _ _ rfl (HZ3.out.setRow_other (by omega)) (lm_len _) rfl ?_) | (refine stm rfl _ _ rfl _ rfl _ _ rfl HZ3.out (lm_len _) rfl ?_))
  refine wp_region_any (by kernel_rfl) ?_
  refine wpAny_take (i := 0) (v := .agg (mag [0, 0, 0, 0, 0, 0, 0, 0])) rfl (by kernel_rfl) (by kernel_rfl) (by kernel_rfl) (fun _ _ _ h => h) (Or.inl ⟨by rfl, ?_⟩) ?_
  · intro w; go_simp; rfl
  refine wpAny_ready (rs := [1, 2]) (by kernel_rfl) (by simp) ?_
  refine AllReady.cons rfl (fun K hK => ?_) (AllReady.cons rfl (fun K hK => ?_) AllReady.nil)
  · refine step_ldm rfl _ rfl _ rfl _ HM.out (lm_len _) ?_
    refine hK _ _ ?_; clear hK K
    refine wpAny_ready (rs := [2]) (by kernel_rfl) (by simp) ?_
    refine AllReady.cons rfl (fun K hK => ?_) AllReady.nil
    refine step_stm rfl _ _ rfl _ rfl _ [0, 0, 0, 0, 0, 0, 0, 0] rfl HZ2.out rfl rfl ?_
    refine hK _ _ ?_; clear hK K
    refine wpAny_ready (rs := [3]) (by kernel_rfl) (by simp) ?_
    refine AllReady.cons rfl (fun K hK => ?_) AllReady.nil
    refine step_stm rfl _ _ rfl _ rfl _ _ rfl (HZ3.out.setRow_other (by omega)) (lm_len _) rfl ?_
    refine hK _ _ ?_; clear hK K
    refine wpAny_done (by kernel_rfl) ?_ _
    go_wp2_with (fail)
    refine bodyPost_ret (res_mag2 rfl _ _ (w.heap.size + 2) (w.heap.size + 3) [0, 0, 0, 0, 0, 0, 0, 0] (lm u) rfl rfl (HZ2.out.setRow.setRow_other (by omega)) rfl (HZ3.out.setRow_other (by omega)).setRow (lm_len _)) rfl ⟨by rw [lm_zero], ?_⟩
    exact below_setRow (below_setRow HB.out.drew (by omega)) (by omega)
  · refine step_stm rfl _ _ rfl _ rfl _ [0, 0, 0, 0, 0, 0, 0, 0] rfl HZ2.out rfl rfl ?_
    refine hK _ _ ?_; clear hK K
    refine wpAny_ready (rs := [1]) (by kernel_rfl) (by simp) ?_
    refine AllReady.cons rfl (fun K hK => ?_) AllReady.nil
    refine step_ldm rfl _ rfl _ rfl _ (HM.out.setRow_other (by omega)) (lm_len _) ?_
    refine hK _ _ ?_; clear hK K
    refine wpAny_ready (rs := [3]) (by kernel_rfl) (by simp) ?_
    refine AllReady.cons rfl (fun K hK => ?_) AllReady.nil
    refine step_stm rfl _ _ rfl _ rfl _ _ rfl (HZ3.out.setRow_other (by omega)) (lm_len _) rfl ?_
    refine hK _ _ ?_; clear hK K
    refine wpAny_done (by kernel_rfl) ?_ _
    go_wp2_with (fail)
    refine bodyPost_ret (res_mag2 rfl _ _ (w.heap.size + 2) (w.heap.size + 3) [0, 0, 0, 0, 0, 0, 0, 0] (lm u) rfl rfl (HZ2.out.setRow.setRow_other (by omega)) rfl (HZ3.out.setRow_other (by omega)).setRow (lm_len _)) rfl ⟨by rw [lm_zero], ?_⟩
    exact below_setRow (below_setRow HB.out.drew (by omega)) (by omega)
end Go.Proofs.YtnkklmbmodkogaaDoor

/-! Dv2 -/
namespace Go.Proofs.YtnkklmbmodkogaaDoor
open Go.RowKit

set_option maxRecDepth 100000 in
set_option maxHeartbeats 1000000 in
theorem divide_limb (u v : Nat) (w : World) (huv : v ≤ u) (hu : u < 18446744073709551616 ^ 8) (hv0 : 0 < v) (hv : v < 18446744073709551616) :
    Calls Tryd.prog 56 #[.agg (mag (lm u)), .agg (mag (lm v))] w fun e w' => e = .returned (.tuple #[.agg (mag (lm (u / v))), .agg (mag (lm (u % v)))]) ∧ Below w.heap.size w w' := by
  obtain ⟨x0, x1, x2, x3, hbW, hsz⟩ := boxes4 w 56 56 56 56 (mag (lm u)) (mag (lm v)) (mag [0, 0, 0, 0, 0, 0, 0, 0]) (mag [0, 0, 0, 0, 0, 0, 0, 0])
  have HC := Lib.hid (fun w => compare_mag u v w hu (small_lt v hv))
  have HD := Lib.hid (fun w => divLimb_mag u v w hu hv0 hv)
  have HL := Lib.hid (lm_small v hv)
  have HV := Lib.hid hv
  have hcmp : cmpN u v = 0 ∨ cmpN u v = 1 := by
    rcases Nat.lt_or_ge v u with h | h
    · exact .inr (cmpN_gt h)
    · exact .inl (cmpN_eq (by omega))
  have hc0 : 0 ≤ cmpN u v := by omega
  have hcd : decide (cmpN u v < 0) = false := by simp; omega
  have htop : top (lm v) = 1 := by
    rw [lm_small v hv]
    simp [top]
    try omega
  generalize cmpN u v = cc at *
  clear hu hv hcmp
  rw [zero8] at *
  go_enter Tryd.func56, Tryd.ntmps56
  go_wp2_with (first | (refine ldm rfl _ rfl _ rfl _ x0 (lm_len _) ?_) | (refine ldm rfl _ rfl _ rfl _ x1 (lm_len _) ?_))
  generalize (((w.alloc (.cells (mag (lm u)) 56)).alloc (.cells (mag (lm v)) 56)).alloc (.cells #[.int .u64 0, .int .u64 0, .int .u64 0, .int .u64 0, .int .u64 0, .int .u64 0, .int .u64 0, .int .u64 0] 56)).alloc (.cells #[.int .u64 0, .int .u64 0, .int .u64 0, .int .u64 0, .int .u64 0, .int .u64 0, .int .u64 0, .int .u64 0] 56) = W at *
  refine (HC.out _).mono ?_
  rintro e w1 ⟨rfl, q1⟩
  have hlt : w.heap.size + 3 < W.heap.size := by omega
  have y1 : Box w1 (w.heap.size + 1) 56 (lm v) := x1.below q1 (by omega)
  clear HC
  go_wp2_with (first | (refine ldm rfl _ rfl _ rfl _ y1 (lm_len _) ?_))
  refine (length_any _ _ (lm_len _)).mono ?_
  rintro e w2 ⟨rfl, q2⟩
  rw [htop]
  have q12 := q1.trans (q2.mono q1.size)
  have hl2 : w.heap.size + 3 < w2.heap.size := Nat.lt_of_lt_of_le hlt q12.size
  have m0 := Lib.hid (show Box w2 w.heap.size 56 (lm u) from x0.below q12 (by omega))
  have z2 := Lib.hid (show Box w2 (w.heap.size + 2) 56 [0, 0, 0, 0, 0, 0, 0, 0] from x2.below q12 (by omega))
  have z3 := Lib.hid (show Box w2 (w.heap.size + 3) 56 [0, 0, 0, 0, 0, 0, 0, 0] from x3.below q12 (by omega))
  have n1 : Box w2 (w.heap.size + 1) 56 (lm v) := x1.below q12 (by omega)
  obtain ⟨c0, c1, c2, c3, c4, c5, c6, c7⟩ := box8 ((congrArg (Box _ _ _) HL.out).mp n1)
  have HB := Lib.hid (hbW.trans (q12.mono (by omega)))
  clear c1 c2 c3 c4 c5 c6 c7 n1 y1 x0 x1 x2 x3 q1 q2 q12 hbW hsz
  go_wp2_with (first | (refine ldm rfl _ rfl _ rfl _ m0.out (lm_len _) ?_))
  refine (HD.out _).mono ?_
  rintro e w3 ⟨rfl, q3⟩
  have hl3 : w.heap.size + 3 < w3.heap.size := Nat.lt_of_lt_of_le hl2 q3.size
  have hz : Box (w3.alloc (.cells #[.int .u64 0, .int .u64 0, .int .u64 0, .int .u64 0, .int .u64 0, .int .u64 0, .int .u64 0, .int .u64 0] 56)) w3.heap.size 56 [0, 0, 0, 0, 0, 0, 0, 0] := heap_alloc_new w3 _
  have hal := below_alloc w3 (.cells #[.int .u64 0, .int .u64 0, .int .u64 0, .int .u64 0, .int .u64 0, .int .u64 0, .int .u64 0, .int .u64 0] 56)
  have q34 := q3.trans (hal.mono q3.size)
  have B2 : Box (w3.alloc (.cells #[.int .u64 0, .int .u64 0, .int .u64 0, .int .u64 0, .int .u64 0, .int .u64 0, .int .u64 0, .int .u64 0] 56)) (w.heap.size + 2) 56 [0, 0, 0, 0, 0, 0, 0, 0] := z2.out.below q34 (by omega)
  have B3 : Box (w3.alloc (.cells #[.int .u64 0, .int .u64 0, .int .u64 0, .int .u64 0, .int .u64 0, .int .u64 0, .int .u64 0, .int .u64 0] 56)) (w.heap.size + 3) 56 [0, 0, 0, 0, 0, 0, 0, 0] := z3.out.below q34 (by omega)
  have HB4 := HB.out.trans (q34.mono (by omega))
  have HA := Lib.hid hz
  have HB2 := Lib.hid (B2.setRow_other (g := w3.heap.size) (cs := mag (lm (u / v))) (by omega))
  have HB3 := Lib.hid (B3.setRow_other (g := w3.heap.size) (cs := mag (lm (u / v))) (by omega))
  have HW := Lib.hid (below_setRow (g := w3.heap.size) (cs := mag (lm (u / v))) HB4 (by omega))
  have HR := Lib.hid (lm_small (u % v) (Nat.lt_trans (Nat.mod_lt u hv0) HV.out))
  clear hz hal q3 q34 B2 B3 HB4 HB z2 z3 m0 c0 HD hcd hc0
  generalize hqq : u / v = qq at *
  generalize hrr : u % v = rr at *
  go_wp2_with (first | (refine stm rfl _ _ rfl _ rfl _ _ rfl HA.out (lm_len _) rfl ?_) | (refine ldm rfl _ rfl _ rfl _ HA.out.setRow (lm_len _) ?_) | (refine stm rfl _ _ rfl _ rfl _ _ rfl HB2.out (lm_len _) rfl ?_) | (refine stm rfl _ _ rfl _ rfl _ [(rr : Int), 0, 0, 0, 0, 0, 0, 0] rfl (HB3.out.setRow_other (by omega)) rfl rfl ?_))
  refine bodyPost_ret (res_mag2 rfl _ _ (w.heap.size + 2) (w.heap.size + 3) (lm qq) [(rr : Int), 0, 0, 0, 0, 0, 0, 0] rfl rfl (HB2.out.setRow.setRow_other (by omega)) (lm_len _) (HB3.out.setRow_other (by omega)).setRow rfl) rfl ⟨by rw [hqq, hrr, HR.out], ?_⟩
  exact below_setRow (below_setRow HW.out (by omega)) (by omega)
end Go.Proofs.YtnkklmbmodkogaaDoor

/-! P2 -/
namespace Go.Proofs.YtnkklmbmodkogaaDoor
open Go.RowKit

/-- An int. -/
def inI (z : Int) : Bool := decide (-9223372036854775808 ≤ z) && decide (z ≤ 9223372036854775807)
def valZ (z : Int) : Int := if inI z then z else 0
def valE (z : Int) : Int := if inI z then 0 else 3
theorem val_yes {z : Int} (h : -9223372036854775808 ≤ z ∧ z ≤ 9223372036854775807) : valZ z = z ∧ valE z = 0 := by
  have : inI z = true := by simp [inI, h.1, h.2]
  unfold valZ valE; rw [this]; exact ⟨rfl, rfl⟩
theorem val_no {z : Int} (h : z < -9223372036854775808 ∨ 9223372036854775807 < z) : valZ z = 0 ∧ valE z = 3 := by
  have : inI z = false := by unfold inI; rcases h with h | h <;> simp <;> omega
  unfold valZ valE; rw [this]; exact ⟨rfl, rfl⟩
theorem top_small {u : Nat} (h : u < 18446744073709551616) : top (lm u) ≤ 1 := by
  rw [lm_small u h]
  simp [top]
  split <;> omega
theorem top_large {u : Nat} (hu : u < 18446744073709551616 ^ 8) (h : 18446744073709551616 ≤ u) : 1 < top (lm u) := by
  have h1 := top_lm_lt hu
  rcases Nat.lt_or_ge 1 (top (lm u)) with h2 | h2
  · exact h2
  · have : 18446744073709551616 ^ top (lm u) ≤ 18446744073709551616 ^ 1 := Nat.pow_le_pow_right (by omega) h2
    rw [Nat.pow_one] at this
    omega

set_option maxRecDepth 100000 in
set_option maxHeartbeats 2000000 in
theorem value_int (x : Value) (z : Int) (w : World) (hx : IntIs w w.heap.size x z) (hz : blen z.natAbs ≤ 64) :
    Calls Tryd.prog 14 #[x] w fun e w' => e = .returned (.tuple #[.int .i64 (valZ z), .int .i64 (valE z)]) ∧ Below w.heap.size w w' := by
  obtain ⟨f, A, m, c, rfl, hx, hf, hn⟩ := hx.look
  obtain ⟨hv0, hbW, hsz⟩ := boxes1 w 24 #[.bool f, .slice A m c]
  have HX := Lib.hid (hx.step hbW)
  have HZ := Lib.hid hz
  have HF := Lib.hid hf
  clear hx hz hn hf
  go_enter Tryd.func14, Tryd.ntmps14
  go_wp2_with (fail)
  generalize w.alloc (.cells #[.bool f, .slice A m c] 24) = W at *
  have hlt0 : w.heap.size < W.heap.size := by omega
  refine (valid_int _ z W HX.out HZ.out).mono ?_
  rintro e w1 ⟨rfl, q1⟩
  have HX1 := Lib.hid (HX.out.step q1)
  have v0 := hv0.below q1 hlt0
  have s0 := v0.cell 0; have s1 := v0.cell 1
  simp only [List.getElem?_toArray, List.getElem?_cons_succ, List.getElem?_cons_zero] at s0 s1
  go_wp2_with (fail)
  refine (magOf_int z w1 HX1.out HZ.out).mono ?_
  rintro e w2 ⟨rfl, q2⟩
  have q12 := q1.trans (q2.mono q1.size)
  have hz3 : Box (w2.alloc (.cells #[.int .u64 0, .int .u64 0, .int .u64 0, .int .u64 0, .int .u64 0, .int .u64 0, .int .u64 0, .int .u64 0] 56)) w2.heap.size 56 [0, 0, 0, 0, 0, 0, 0, 0] := heap_alloc_new w2 _
  have hs2 := q12.size
  have q4 := below_setRow (g := w2.heap.size) (cs := mag (lm z.natAbs)) (q12.trans ((below_alloc w2 (.cells #[.int .u64 0, .int .u64 0, .int .u64 0, .int .u64 0, .int .u64 0, .int .u64 0, .int .u64 0, .int .u64 0] 56)).mono hs2)) hs2
  have hp4 := Lib.hid (hz3.setRow (ys := lm z.natAbs))
  have u0 := (hv0.below q4 hlt0).cell 0
  simp only [List.getElem?_toArray, List.getElem?_cons_zero] at u0
  have Q4 := Lib.hid q4
  have B0 := Lib.hid hbW
  have HZ3 := Lib.hid hz3
  have HV0 := Lib.hid hv0
  clear hz3 q4 q12 v0 s0 s1 hv0 hbW q1 q2
  cases f
  · go_wp2_with (first | (refine stm rfl _ _ rfl _ rfl _ _ rfl HZ3.out (lm_len _) rfl ?_) | (refine ldm rfl _ rfl _ rfl _ hp4.out (lm_len _) ?_))
    clear u0 HZ3
    have hl4 := hp4.out.lt
    generalize ((w2.alloc (.cells #[.int .u64 0, .int .u64 0, .int .u64 0, .int .u64 0, .int .u64 0, .int .u64 0, .int .u64 0, .int .u64 0] 56)).setRow w2.heap.size (mag (lm z.natAbs))) = W4 at *
    refine (length_any _ W4 (lm_len _)).mono ?_
    rintro e w3 ⟨rfl, q5⟩
    have Q5 := Lib.hid (Q4.out.trans (q5.mono Q4.out.size))
    have u1 := (HV0.out.below Q5.out hlt0).cell 0
    simp only [List.getElem?_toArray, List.getElem?_cons_zero] at u1
    have c1 := (hp4.out.below q5 hl4).cell 0 (by simp)
    rw [lm_get _ 0 (by omega)] at c1
    have HQ := Lib.hid (B0.out.trans (Q5.out.mono (by omega)))
    clear q5
    rcases Nat.lt_or_ge z.natAbs 18446744073709551616 with hu | hu
    · have ht := top_small hu
      have hm : limb z.natAbs 0 = (z.natAbs : Int) := by unfold limb; rw [Nat.pow_zero, Nat.div_one, Nat.mod_eq_of_lt hu]
      rw [hm] at c1
      have dt : decide ((1 : Int) < (top (lm z.natAbs) : Int)) = false := by simp; omega
      generalize top (lm z.natAbs) = t at *
      have hf := HF.out
      rcases Nat.lt_or_ge 9223372036854775807 z.natAbs with hr | hr
      · have hno := val_no (z := z) (by have := of_decide_eq_false hf.symm; omega)
        have HN := Lib.hid hno
        have dr : decide (9223372036854775807 < (z.natAbs : Int)) = true := by simp; omega
        have di : (9223372036854775807 : Int) < (z.natAbs : Int) := by omega
        clear hu hm ht hr hno hf
        generalize z.natAbs = u at *
        go_wp2_with (fail)
        exact bodyPost_ret (v := .tuple #[.int .i64 0, .int .i64 3]) (by simp [results, Tryd.results14, go_sem]) rfl ⟨by rw [HN.out.1, HN.out.2], HQ.out⟩
      · have hyes := val_yes (z := z) (by have := of_decide_eq_false hf.symm; omega)
        have HN := Lib.hid hyes
        have dr : decide (9223372036854775807 < (z.natAbs : Int)) = false := by simp; omega
        have er : IntKind.i64.wrap (z.natAbs : Int) = z := by have := of_decide_eq_false hf.symm; rw [IntKind.wrap_i64]; omega
        clear hu hm ht hr hyes hf
        generalize z.natAbs = u at *
        go_wp2_with (fail)
        exact bodyPost_ret (v := .tuple #[.int .i64 z, .int .i64 0]) (by simp [results, Tryd.results14, go_sem]) rfl ⟨by rw [HN.out.1, HN.out.2], HQ.out⟩
    · have ht := top_large (abs_lt HZ.out) hu
      have dt : decide ((1 : Int) < (top (lm z.natAbs) : Int)) = true := by simp; omega
      have di : (1 : Int) < (top (lm z.natAbs) : Int) := by omega
      generalize top (lm z.natAbs) = t at *
      have hno := val_no (z := z) (by omega)
      have HN := Lib.hid hno
      clear hu hno
      go_wp2_with (fail)
      exact bodyPost_ret (v := .tuple #[.int .i64 0, .int .i64 3]) (by simp [results, Tryd.results14, go_sem]) rfl ⟨by rw [HN.out.1, HN.out.2], HQ.out⟩
  · go_wp2_with (first | (refine stm rfl _ _ rfl _ rfl _ _ rfl HZ3.out (lm_len _) rfl ?_) | (refine ldm rfl _ rfl _ rfl _ hp4.out (lm_len _) ?_))
    clear u0 HZ3
    have hl4 := hp4.out.lt
    generalize ((w2.alloc (.cells #[.int .u64 0, .int .u64 0, .int .u64 0, .int .u64 0, .int .u64 0, .int .u64 0, .int .u64 0, .int .u64 0] 56)).setRow w2.heap.size (mag (lm z.natAbs))) = W4 at *
    refine (length_any _ W4 (lm_len _)).mono ?_
    rintro e w3 ⟨rfl, q5⟩
    have Q5 := Lib.hid (Q4.out.trans (q5.mono Q4.out.size))
    have u1 := (HV0.out.below Q5.out hlt0).cell 0
    simp only [List.getElem?_toArray, List.getElem?_cons_zero] at u1
    have c1 := (hp4.out.below q5 hl4).cell 0 (by simp)
    rw [lm_get _ 0 (by omega)] at c1
    have HQ := Lib.hid (B0.out.trans (Q5.out.mono (by omega)))
    clear q5
    rcases Nat.lt_or_ge z.natAbs 18446744073709551616 with hu | hu
    · have ht := top_small hu
      have hm : limb z.natAbs 0 = (z.natAbs : Int) := by unfold limb; rw [Nat.pow_zero, Nat.div_one, Nat.mod_eq_of_lt hu]
      rw [hm] at c1
      have dt : decide ((1 : Int) < (top (lm z.natAbs) : Int)) = false := by simp; omega
      generalize top (lm z.natAbs) = t at *
      have hf := HF.out
      rcases Nat.lt_or_ge 9223372036854775808 z.natAbs with hr | hr
      · have hno := val_no (z := z) (by have := of_decide_eq_true hf.symm; omega)
        have HN := Lib.hid hno
        have dr : decide (9223372036854775808 < (z.natAbs : Int)) = true := by simp; omega
        have di : (9223372036854775808 : Int) < (z.natAbs : Int) := by omega
        clear hu hm ht hr hno hf
        generalize z.natAbs = u at *
        go_wp2_with (fail)
        exact bodyPost_ret (v := .tuple #[.int .i64 0, .int .i64 3]) (by simp [results, Tryd.results14, go_sem]) rfl ⟨by rw [HN.out.1, HN.out.2], HQ.out⟩
      · have hyes := val_yes (z := z) (by have := of_decide_eq_true hf.symm; omega)
        have HN := Lib.hid hyes
        have dr : decide (9223372036854775808 < (z.natAbs : Int)) = false := by simp; omega
        have er : IntKind.i64.wrap (IntKind.u64.wrap (-(z.natAbs : Int))) = z := by have := of_decide_eq_true hf.symm; rw [IntKind.wrap_u64, IntKind.wrap_i64]; omega
        clear hu hm ht hr hyes hf
        generalize z.natAbs = u at *
        go_wp2_with (fail)
        exact bodyPost_ret (v := .tuple #[.int .i64 z, .int .i64 0]) (by simp [results, Tryd.results14, go_sem]) rfl ⟨by rw [HN.out.1, HN.out.2], HQ.out⟩
    · have ht := top_large (abs_lt HZ.out) hu
      have dt : decide ((1 : Int) < (top (lm z.natAbs) : Int)) = true := by simp; omega
      have di : (1 : Int) < (top (lm z.natAbs) : Int) := by omega
      generalize top (lm z.natAbs) = t at *
      have hno := val_no (z := z) (by omega)
      have HN := Lib.hid hno
      clear hu hno
      go_wp2_with (fail)
      exact bodyPost_ret (v := .tuple #[.int .i64 0, .int .i64 3]) (by simp [results, Tryd.results14, go_sem]) rfl ⟨by rw [HN.out.1, HN.out.2], HQ.out⟩
end Go.Proofs.YtnkklmbmodkogaaDoor
