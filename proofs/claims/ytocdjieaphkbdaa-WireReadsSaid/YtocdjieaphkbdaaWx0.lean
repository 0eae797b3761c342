/- Values among the arguments: memory, large, write. -/
import Derived.Test.YtocdjieaphkbdaaWu0
import Derived.Test.YtocdjieaphkbdaaWs
namespace Go.Proofs.Ytocdjieaphkbdaa
open Go.RowKit

/-- A value. -/
structure WV where
  kind : Nat
  num : Int
  tv : Value
  text : List Int
  lv : Value
  list : List Int
/-- The value x lies at (b, o). -/
structure ValAt (W : World) (P : Nat → Prop) (b o : Nat) (x : WV) : Prop where
  c0 : W.cell? ⟨b, o, none⟩ = some (.int .u8 x.kind)
  c1 : W.cell? ⟨b, o + 1, none⟩ = some (.int .i64 x.num)
  c2 : W.cell? ⟨b, o + 2, none⟩ = some x.tv
  c3 : W.cell? ⟨b, o + 3, none⟩ = some x.lv
  t : Rw W P .u8 x.tv x.text
  l : Rw W P .i64 x.lv x.list
  kb : x.kind < 256
  nb : -9223372036854775808 ≤ x.num ∧ x.num ≤ 9223372036854775807
  tb : Bys8 x.text
  lb : I64s x.list
theorem ValAt.ch {E P : Nat → Prop} {W W' : World} {b o : Nat} {x : WV} (h : ValAt W P b o x) (hc : Ch E W W') (hb : ¬ E b) (hP : ∀ i, i < W.heap.size → P i → ¬ E i) : ValAt W' P b o x :=
  ⟨hc.cell h.c0 hb, hc.cell h.c1 hb, hc.cell h.c2 hb, hc.cell h.c3 hb, h.t.ch hc hP, h.l.ch hc hP, h.kb, h.nb, h.tb, h.lb⟩
/-- A list of values. -/
def ValsAt (W : World) (P : Nat → Prop) (A : Option Addr) (n : Nat) (vl : Nat → WV) : Prop := ∀ i, i < n → ∃ b o, A = some ⟨b, o, none⟩ ∧ b < W.heap.size ∧ ValAt W P b (o + 4 * i) (vl i)
theorem ValsAt.no {P : Nat → Prop} {W W' : World} {A : Option Addr} {n : Nat} {vl : Nat → WV} (h : ValsAt W P A n vl) (hc : Ch No W W') : ValsAt W' P A n vl := fun i hi => by
  obtain ⟨b, o, e, hb, hv⟩ := h i hi
  exact ⟨b, o, e, Nat.lt_of_lt_of_le hb hc.size, hv.ch hc (fun h => h) fun _ _ _ h => h⟩
theorem ValsAt.mono {P P' : Nat → Prop} {W : World} {A : Option Addr} {n : Nat} {vl : Nat → WV} (h : ValsAt W P A n vl) (hP : ∀ i, i < W.heap.size → P i → P' i) : ValsAt W P' A n vl := fun i hi => by
  obtain ⟨b, o, e, hb, hv⟩ := h i hi
  exact ⟨b, o, e, hb, ⟨hv.c0, hv.c1, hv.c2, hv.c3, hv.t.mono hP, hv.l.mono hP, hv.kb, hv.nb, hv.tb, hv.lb⟩⟩
/-- The values are small. -/
def Small (n : Nat) (vl : Nat → WV) : Prop := n ≤ 20 ∧ ∀ i, i < n → (vl i).text.length ≤ 200 ∧ (vl i).list.length ≤ 50
/-- What large answers. -/
def Lg (n : Nat) (vl : Nat → WV) (r : Ending) : Prop := ∃ lg : Bool, r = .returned (.bool lg) ∧ (lg = false → Small n vl)
set_option maxRecDepth 100000 in
set_option maxHeartbeats 4000000 in
theorem large_any {W : World} {P : Nat → Prop} {A : Option Addr} {n c : Nat} {vl : Nat → WV} (h : ValsAt W P A n vl) :
    Calls Try.prog 10 #[.slice A n c] W fun r W' => Lg n vl r ∧ W' = W := by
  by_cases g : 20 < n
  · have gI : (n : Int) > 20 := by omega
    clear h
    go_enter Try.func10, Try.ntmps10
    go_wp2_with (fail)
    go_ret
    exact ⟨⟨true, rfl, fun e => by cases e⟩, rfl⟩
  have gI : ¬ (n : Int) > 20 := by omega
  have gn : n ≤ 20 := by omega
  have H := Lib.hid h
  clear h g
  go_enter Try.func10, Try.ntmps10
  go_wp2_with (fail)
  go_loopw [3] (fun i wx => ∃ k : Nat, i = .int .i64 k ∧ k ≤ n ∧ wx = W ∧ Hid (∀ j, j < k → (vl j).text.length ≤ 200 ∧ (vl j).list.length ≤ 50)) (fun i _ => n - (intOf i).toNat)
  case atStart => exact ⟨0, rfl, Nat.zero_le _, rfl, Lib.hid fun j hj => by omega⟩
  case round =>
    obtain ⟨k, rfl, hk, rfl, hs⟩ := hrel
    by_cases g : k < n
    · have gK : (k : Int) < n := by omega
      obtain ⟨b, o, rfl, hb, hv⟩ := H.out k g
      have c2 := hv.c2
      have c3 := hv.c3
      obtain ⟨tA, tc, et, -⟩ := hv.t.shape
      obtain ⟨lA, lc, el, -⟩ := hv.l.shape
      rw [et] at c2
      rw [el] at c3
      obtain ⟨tl, htl⟩ : ∃ l, (vl k).text.length = l := ⟨_, rfl⟩
      obtain ⟨ll, hll⟩ : ∃ l, (vl k).list.length = l := ⟨_, rfl⟩
      rw [htl] at c2
      rw [hll] at c3
      have HT := Lib.hid htl
      have HL := Lib.hid hll
      have HS := hs
      clear hv et el htl hll hs hb
      have e4 : o + 4 * k = o + k * 4 := by omega
      rw [e4] at c2 c3
      clear e4
      by_cases g1 : 200 < tl
      · have q1 : (tl : Int) > 200 := by omega
        go_wp2_with (fail)
        go_ret
        exact ⟨⟨true, rfl, fun e => by cases e⟩, rfl⟩
      have q1 : ¬ (tl : Int) > 200 := by omega
      by_cases g2 : 50 < ll
      · have q2 : (ll : Int) > 50 := by omega
        go_wp2_with (fail)
        go_ret
        exact ⟨⟨true, rfl, fun e => by cases e⟩, rfl⟩
      have q2 : ¬ (ll : Int) > 50 := by omega
      have HS2 : Hid (∀ j, j < k + 1 → (vl j).text.length ≤ 200 ∧ (vl j).list.length ≤ 50) := Lib.hid fun j hj => by
        rcases (by omega : j < k ∨ j = k) with h | rfl
        · exact HS.out j h
        · rw [HT.out, HL.out]; omega
      clear HS HT HL g1 g2
      go_wp2_with (fail)
      go_roundw
      case rel => exact ⟨k + 1, by go_num, by omega, by first | rfl | trivial, HS2⟩
      case measure => simp [intOf]; omega
    · obtain rfl : k = n := by omega
      have HS := hs
      clear hs
      go_wp2_with (fail)
      go_ret
      exact ⟨⟨false, rfl, fun _ => ⟨gn, HS.out⟩⟩, rfl⟩
end Go.Proofs.Ytocdjieaphkbdaa
