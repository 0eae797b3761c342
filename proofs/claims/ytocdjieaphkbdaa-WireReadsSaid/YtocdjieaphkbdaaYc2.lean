/- The reference of wire: lists are read. -/
import Derived.Test.YtocdjieaphkbdaaYc1
namespace Go.Proofs.Ytocdjieaphkbdaa
open Go.RowKit

theorem Rw.from_ {w : World} {P : Nat → Prop} {K : IntKind} {b o m c k : Nat} {bd : List Int} (h : Rw w P K (.slice (some ⟨b, o, none⟩) m c) bd) (hm : bd.length = m) (hk : k ≤ m) (hc : ¬ c = k) : Rw w P K (.slice (some ⟨b, o + k, none⟩) (m - k) (c - k)) (bd.drop k) := by
  have := h.cut hm (i := k) (j := m) hk (Nat.le_refl _)
  rw [if_neg hc, List.take_of_length_le (by omega)] at this
  exact this
/-- What the reference's List answers. -/
def PartO (w : World) (B : Nat) (x : Value) : Rd (List Int) → Prop
  | .bad _ => True
  | .good v _ => Ow 3 .i64 w B x v
set_option maxRecDepth 100000 in
set_option maxHeartbeats 4000000 in
theorem refList_any {w : World} {P : Nat → Prop} {A : Option Addr} {m c : Nat} {bd : List Int} {lim : Int} (hr : Rw w P .u8 (.slice A m c) bd) (hm : bd.length = m) (hb : Bys8 bd) (hlm : m < 1000000) :
    Calls Try.prog 21 #[.slice A m c, .int .i64 lim] w fun r w' => ∃ x, r = .returned (tupX x (.slice none 0 0) (rList bd lim)) ∧ PartO w' w.heap.size x (rList bd lim) ∧ Ch No w w' := by
  have HU := refCount_any (lim := lim) hr hm hb hlm
  cases hR : rCount bd lim with
  | bad e =>
    have hI : rList bd lim = .bad e := by unfold rList; rw [hR]
    have he : ((e : Int) != 0) = true := by have := rCount_err hR; simpa using this
    rw [hR] at HU
    rw [hI]
    simp only [tup, tupX, PartO] at HU ⊢
    have HU := Lib.hid HU
    clear hR hI hr hm hb hlm
    go_enter Try.func21, Try.ntmps21
    go_wp2_with (fail)
    refine HU.out.mono ?_
    rintro r w1 ⟨rfl, hw⟩
    rw [hw]
    clear hw HU
    go_wp2_with (fail)
    exact bodyPost_ret (v := .tuple #[.slice none 0 0, .int .i64 0, .int .i64 e]) (by simp [results, Try.results21, go_sem]) rfl ⟨.slice none 0 0, rfl, trivial, Ch.refl _ _⟩
  | good v k0 =>
    rw [hR] at HU
    simp only [tup] at HU
    have HU := Lib.hid HU
    obtain ⟨hU, -⟩ := rCount_le hR
    obtain ⟨u1, u2, u3⟩ := rUint_le hU
    rw [hm] at u2
    obtain ⟨b, o, rfl, -⟩ := hr.at (by omega)
    have hcap := hr.cap hm
    have HI : Hid (rList bd lim = lst v [] k0 bd) := Lib.hid (by unfold rList; rw [hR])
    have HR := Lib.hid hr
    have HM := Lib.hid hm
    have HB := Lib.hid hb
    clear hR hr hm hb hU u1
    go_enter Try.func21, Try.ntmps21
    go_wp2_with (fail)
    refine HU.out.mono ?_
    rintro r w1 ⟨rfl, hw⟩
    rw [hw]
    clear hw HU
    go_wp2_with (fail)
    go_loopw [8, 10, 11] (fun kv u i wx => ∃ (j kk : Nat) (ls : List Int), i = .int .i64 j ∧ kv = .int .i64 kk ∧ j ≤ v ∧ kk ≤ m ∧ Hid (Ch No w wx) ∧ Hid (Ow 3 .i64 wx w.heap.size u ls) ∧ Hid (lst v [] k0 bd = lst (v - j) ls kk bd) ∧ Hid (ls.length = j ∧ j ≤ kk)) (fun _ _ i _ => v - (intOf i).toNat)
    case atStart => exact ⟨0, k0, [], rfl, rfl, Nat.zero_le _, u2, Lib.hid (Ch.refl _ _), Lib.hid Ow.nil_, Lib.hid rfl, Lib.hid ⟨rfl, Nat.zero_le _⟩⟩
    case round =>
      obtain ⟨j, kk, ls, rfl, rfl, hj, hkm, hc, ho, hl, hbd⟩ := hrel
      clear u2
      by_cases g1 : j < v
      · have gI : (j : Int) < v := by omega
        have hjn : j < 1000000 := by have := hbd.out; omega
        obtain ⟨vj, hvj⟩ : ∃ vj, v - j = vj + 1 := ⟨v - j - 1, by omega⟩
        by_cases hck : c = kk
        · obtain rfl : m = c := by omega
          subst hck
          have hR2 : rInt (bd.drop m) = .bad 4 := by rw [List.drop_of_length_le (by rw [HM.out]; omega)]; rfl
          have HE : Hid (rList bd lim = .bad 4) := Lib.hid (by rw [HI.out, hl.out, hvj, lst_bad hR2])
          have HS := refInt_any (w := wr) (P := P) (A := some ⟨b, o, none⟩) (m := 0) (c := 0) (bd := []) (Rw.zero _ _) rfl (fun x hx => by simp at hx) (by decide)
          rw [show rInt [] = .bad 4 from rfl] at HS
          simp only [tup] at HS
          have HS := Lib.hid HS
          have HC := hc
          clear hc ho hl hbd hR2 hvj
          go_wp2_with (fail)
          refine HS.out.mono ?_
          rintro r w2 ⟨rfl, hw⟩
          rw [hw]
          clear hw HS
          go_wp2_with (fail)
          rw [HE.out]
          exact bodyPost_ret (v := .tuple #[.slice none 0 0, .int .i64 0, .int .i64 4]) (by simp [results, Try.results21, go_sem]) rfl ⟨.slice none 0 0, rfl, trivial, HC.out⟩
        · have HS := refInt_any (w := wr) ((HR.out.ch hc.out fun _ _ _ h => h).from_ HM.out hkm hck) (by rw [List.length_drop, HM.out]) (bys_drop HB.out kk) (by omega)
          have s1 : (kk : Int) ≤ m := by omega
          have s2 : (m : Int) ≤ c := by omega
          cases hR2 : rInt (bd.drop kk) with
          | bad e =>
            have HE : Hid (rList bd lim = .bad e) := Lib.hid (by rw [HI.out, hl.out, hvj, lst_bad hR2])
            have he : ((e : Int) != 0) = true := by have := rInt_err hR2; simpa using this
            rw [hR2] at HS
            simp only [tup] at HS
            have HS := Lib.hid HS
            have HC := hc
            clear hc ho hl hbd hR2 hvj
            go_wp2_with (fail)
            refine HS.out.mono ?_
            rintro r w2 ⟨rfl, hw⟩
            rw [hw]
            clear hw HS
            go_wp2_with (fail)
            rw [HE.out]
            exact bodyPost_ret (v := .tuple #[.slice none 0 0, .int .i64 0, .int .i64 e]) (by simp [results, Try.results21, go_sem]) rfl ⟨.slice none 0 0, rfl, trivial, HC.out⟩
          | good z d =>
            have HE : Hid (lst v [] k0 bd = lst (v - (j + 1)) (ls ++ [z]) (kk + d) bd) := Lib.hid (by
              rw [hl.out, hvj, lst_next hR2]
              congr 1
              omega)
            have hd := (rInt_le hR2)
            rw [List.length_drop, HM.out] at hd
            have HD : Hid (0 < d) := Lib.hid hd.1
            have hd2 : kk + d ≤ m := by have := hd.2.1; omega
            rw [hR2] at HS
            simp only [tup] at HS
            have HS := Lib.hid HS
            have HC := hc
            have HO := ho
            have HBD := hbd
            have S0 : w.heap.size ≤ wr.heap.size := hc.out.size
            have O2 : Hid (∀ z, Ow 3 .i64 (wr.alloc (.cells #[.int .i64 z] 3)) w.heap.size u10 ls) := Lib.hid fun z => HO.out.no (Ch.new wr _)
            clear hc ho hl hbd hR2 hvj hd
            go_wp2_with (fail)
            refine HS.out.mono ?_
            rintro r w2 ⟨rfl, hw⟩
            rw [hw]
            clear hw HS w2
            go_wp2_with (at_builtin; refine app rfl _ _ _ rfl Try.underlying33 infoI64 (by decide) rfl rfl (O2.out _) (by simp; omega) (fun i => i = wr.heap.size) [z] (Rw.one rfl (by rw [World.cell?_alloc_at _ _ _ _ rfl]; rfl)) (by have := HBD.out; simp only [List.length_singleton]; omega) ?_)
            intro x' w3 o3 k3 m3
            have K3 : Hid (Ch No w w3) := Lib.hid ((HC.out.then (Ch.new wr _)).trans k3 fun i hi h => by have := ((O2.out z).lt h).1; omega)
            have O3 := Lib.hid o3
            have B3 : Hid ((ls ++ [z]).length = j + 1 ∧ j + 1 ≤ kk + d) := Lib.hid (by have := HBD.out; have := HD.out; rw [List.length_append, List.length_singleton]; omega)
            clear o3 k3 m3 O2 HBD HD S0 HO HC
            go_wp2_with (fail)
            go_roundw
            case rel => exact ⟨j + 1, kk + d, _, by go_num, by go_num, by omega, hd2, K3, O3, HE, B3⟩
            case measure => simp [intOf]; omega
      · obtain rfl : j = v := by omega
        have HE : Hid (rList bd lim = .good ls kk) := Lib.hid (by rw [HI.out, hl.out, Nat.sub_self]; rfl)
        have HO := ho
        have HC := hc
        clear hc ho hl hbd
        go_wp2_with (fail)
        rw [HE.out]
        exact bodyPost_ret (v := .tuple #[u10, .int .i64 kk, .int .i64 0]) (by simp [results, Try.results21, go_sem]) rfl ⟨_, rfl, HO.out, HC.out⟩
end Go.Proofs.Ytocdjieaphkbdaa
