/- Package random: Shuffle. -/
import Derived.Test.YtmidoicbbgdchaaQc
namespace Go.Proofs.Ytmidoicbbgdchaa
open Go.RowKit

def swp (l : List Int) (i j : Nat) : List Int := (l.set i (l[j]?.getD 0)).set j (l[i]?.getD 0)
theorem swp_len (l : List Int) (i j : Nat) : (swp l i j).length = l.length := by simp [swp]
def shuf : Nat → Int → List Int → Int × List Int
  | 0, s, l => (s, l)
  | i + 1, s, l => shuf i (numS ((i + 2 : Nat) : Int) s) (swp l (i + 1) (numV ((i + 2 : Nat) : Int) s).toNat)
theorem shuf_zero (s : Int) (l : List Int) : shuf 0 s l = (s, l) := rfl
theorem shuf_succ (i : Nat) (s : Int) (l : List Int) : shuf (i + 1) s l = shuf i (numS ((i + 2 : Nat) : Int) s) (swp l (i + 1) (numV ((i + 2 : Nat) : Int) s).toNat) := rfl
def fillL (n k : Nat) : List Int := (List.range n).map fun i => if i < k then (i : Int) else 0
def ups (n : Nat) : List Int := (List.range n).map fun i : Nat => (i : Int)
theorem fillL_len (n k : Nat) : (fillL n k).length = n := by simp [fillL]
theorem ups_len (n : Nat) : (ups n).length = n := by simp [ups]
theorem fillL_zero (n : Nat) : List.replicate n (0 : Int) = fillL n 0 := by
  apply List.ext_getElem
  · simp [fillL]
  · intro k h1 h2; simp [fillL]
theorem fillL_all (n : Nat) : fillL n n = ups n := by
  apply List.ext_getElem
  · simp [fillL, ups]
  · intro k h1 h2
    simp only [fillL, ups, List.getElem_map, List.getElem_range]
    rw [if_pos (by simpa [fillL] using h1)]
theorem fillL_set (n k : Nat) : (fillL n k).set k (k : Int) = fillL n (k + 1) := by
  apply List.ext_getElem
  · simp [fillL]
  · intro j h1 h2
    rw [List.getElem_set]
    simp only [fillL, List.getElem_map, List.getElem_range]
    split
    · subst k; rw [if_pos (by omega)]
    · split <;> split <;> omega
def shufS (n : Nat) (s : Int) : Int := (shuf (n - 1) s (ups n)).1
def shufL (n : Nat) (s : Int) : List Int := (shuf (n - 1) s (ups n)).2
theorem But.far {p g k : Nat} {w wr : World} (h : But p w wr) (hg : w.heap.size ≤ g) (v : Value) : But p w (wr.setCell ⟨g, k, none⟩ v) :=
  ⟨h.os, h.tape, h.output, by have := h.size; simpa [World.setCell] using this, fun i hi hl => (Below.heap_setCell wr _ v i (by show i ≠ g; omega)).trans (h.block i hi hl)⟩
theorem Src.far {w : World} {p g k : Nat} {s : Int} (h : Src w p s) (hg : p ≠ g) (v : Value) : Src (w.setCell ⟨g, k, none⟩ v) p s := (Below.heap_setCell w _ v p hg).trans h
theorem But.of_below {p : Nat} {w w' : World} (h : Below w.heap.size w w') : But p w w' := ⟨h.os, h.tape, h.output, h.size, fun i _ hl => h.block i hl⟩
/-- The second loop's relation. -/
def ShInv (n : Nat) (s ii : Int) (k : Nat) (t : Int) (l : List Int) : Prop := (0 < ii → ii = (k : Int) ∧ k < n) ∧ (ii ≤ 0 → k = 0) ∧ l.length = n ∧ shuf k t l = shuf (n - 1) s (ups n)
theorem shInv_start (n : Nat) (s : Int) : ShInv n s ((n : Int) - 1) (n - 1) s (ups n) := ⟨fun h => ⟨by omega, by omega⟩, fun h => by omega, ups_len n, rfl⟩
theorem shInv_end {n : Nat} {s ii t : Int} {k : Nat} {l : List Int} (h : ShInv n s ii k t l) (h0 : ii ≤ 0) : t = shufS n s ∧ l = shufL n s := by
  obtain ⟨-, h2, -, h4⟩ := h
  rw [h2 h0, shuf_zero] at h4
  exact ⟨congrArg Prod.fst h4, congrArg Prod.snd h4⟩
theorem shInv_step {n i : Nat} {s t : Int} {l : List Int} (h : ShInv n s ((i + 1 : Nat) : Int) (i + 1) t l) : ShInv n s (i : Int) i (numS ((i + 2 : Nat) : Int) t) (swp l (i + 1) (numV ((i + 2 : Nat) : Int) t).toNat) := by
  obtain ⟨h1, -, h3, h4⟩ := h
  exact ⟨fun _ => ⟨rfl, by have := (h1 (by omega)).2; omega⟩, fun h => by omega, by rw [swp_len]; exact h3, by rw [← h4, shuf_succ]⟩

set_option maxRecDepth 100000 in
set_option maxHeartbeats 2000000 in
theorem shuffle_any {w : World} {p : Nat} {s : Int} (n : Nat) (h : Src w p s) (hn : n ≤ 4096) :
    Calls Try.prog 13 #[.pointer (some ⟨p, 0, none⟩), .int .i64 n] w fun e w' => e = .returned (.tuple #[.slice (some ⟨w.heap.size, 0, none⟩) n n, .int .i64 0]) ∧
      OwnI w' w.heap.size (.slice (some ⟨w.heap.size, 0, none⟩) n n) (shufL n s) ∧ Src w' p (shufS n s) ∧ But p w w' := by
  have HI := Lib.hid (is_any h)
  have HS := Lib.hid h
  have g1 : decide ((n : Int) < 0) = false := by simp
  have g2 : decide ((4096 : Int) < (n : Int)) = false := by simp; omega
  have hpl := h.lt
  clear h
  go_enter Try.func13, Try.ntmps13
  go_wp2_with (fail)
  refine HI.out.mono ?_
  rintro e w1 ⟨rfl, rfl⟩
  go_wp2_with (refine makeI rfl _ _ _ rfl Try.underlying38 n _ _ rfl rfl ?c1 ?c2 ?c3 (Below.refl _ _) (Nat.le_refl _) ?_)
  case c1 => rfl
  case c2 => rfl
  case c3 => omega
  intro w2 o1 q1 q2 q3
  rw [fillL_zero] at o1
  have HS2 := Lib.hid (HS.out.below q3)
  have HB2 := Lib.hid (But.of_below (p := p) q3)
  have HO2 := Lib.hid o1
  have HQ2 := Lib.hid q2
  generalize hg : w1.heap.size = g at *
  have HG := Lib.hid hg
  clear o1 q1 q2 q3 hg g1 g2
  go_wp2_with (fail)
  go_loopw [7, 23] (fun _ i wr => ∃ k : Nat, k ≤ n ∧ i = .int .i64 k ∧ Hid (OwnI wr g (.slice (some ⟨g, 0, none⟩) n n) (fillL n k)) ∧ Hid (Src wr p s) ∧ Hid (But p w1 wr)) (fun _ i _ => n - (intOf i).toNat)
  case atStart => exact ⟨0, by omega, rfl, HO2, HS2, HB2⟩
  case round =>
    obtain ⟨k, hk, rfl, ho, hs, hb⟩ := hrel
    clear HO2 HS2 HB2
    by_cases gk : k < n
    · have gI : (k : Int) < (n : Int) := by omega
      have c := ho.out.cellAt (j := k) (by rw [fillL_len]; exact gk)
      have f := ho.out.freeAt k
      have o2 := ho.out.set_ (j := k) (k : Int)
      rw [fillL_set] at o2
      have HO3 := Lib.hid o2
      have HS3 := Lib.hid (hs.out.far (g := g) (k := k) (by omega) (.int .i64 (k : Int)))
      have HB3 := Lib.hid (hb.out.far (g := g) (k := k) (by have := HG.out; omega) (.int .i64 (k : Int)))
      clear ho hs hb o2
      go_wp2
      go_roundw
      case rel => exact ⟨k + 1, by omega, by go_num, HO3, HS3, HB3⟩
      case measure => simp [intOf]; omega
    · obtain rfl : k = n := by omega
      have ho3 := ho.out
      rw [fillL_all] at ho3
      have HO3 := Lib.hid ho3
      have hwn : IntKind.i64.wrap ((k : Int) - 1) = (k : Int) - 1 := by rw [IntKind.wrap_i64]; omega
      clear ho ho3
      go_wp2_with (fail)
      go_loopw [8, 9] (fun i _ wr => ∃ (ii : Int) (m : Nat) (t : Int) (l : List Int), i = .int .i64 ii ∧ -1 ≤ ii ∧ ii ≤ 4096 ∧ Hid (ShInv k s ii m t l) ∧ Hid (OwnI wr g (.slice (some ⟨g, 0, none⟩) k k) l) ∧ Hid (Src wr p t) ∧ Hid (But p w1 wr)) (fun i _ _ => (intOf i).toNat)
      case atStart => exact ⟨_, _, _, _, rfl, by omega, by omega, Lib.hid (shInv_start k s), HO3, hs, hb⟩
      case round =>
        obtain ⟨ii, m, t, l, rfl, i0, i1, hv, ho, hs2, hb2⟩ := hrel
        clear HO3 hs hb
        by_cases gi : 0 < ii
        · obtain ⟨e1, e2⟩ := hv.out.1 gi
          subst e1
          obtain ⟨i, hm⟩ : ∃ i, m = i + 1 := ⟨m - 1, by omega⟩
          obtain ⟨q, hq⟩ : ∃ q, q = i + 2 := ⟨_, rfl⟩
          have hst := hv.out
          rw [hm] at hst
          have HST := shInv_step hst
          rw [← hq, ← hm] at HST
          have hlen : l.length = k := hv.out.2.2.1
          have HBE := Lib.hid (below_any (q : Int) hs2.out (by omega) (by omega))
          obtain ⟨n0, n1⟩ := numV_b (n := (q : Int)) (s := t) (by omega) (by omega)
          obtain ⟨j, hj⟩ : ∃ j : Nat, numV (q : Int) t = (j : Int) := ⟨(numV (q : Int) t).toNat, by omega⟩
          rw [hj] at HBE HST n1
          rw [Int.toNat_natCast] at HST
          have HST := Lib.hid HST
          generalize numS (q : Int) t = t2 at *
          have a1 : IntKind.i64.wrap ((m : Int) + 1) = (q : Int) := by rw [IntKind.wrap_i64]; omega
          have a2 : IntKind.u64.wrap (q : Int) = (q : Int) := by rw [IntKind.wrap_u64]; omega
          have a3 : IntKind.i64.wrap ((m : Int) - 1) = (i : Int) := by rw [IntKind.wrap_i64]; omega
          have gm : m < k := e2
          have gj : j < k := by omega
          have gim : i < m := by omega
          have gi4 : -1 ≤ (i : Int) ∧ (i : Int) ≤ 4096 := by omega
          clear hv hj n0 i0 i1 hm hq hst n1 e2
          go_wp2_with (fail)
          refine HBE.out.mono ?_
          rintro e w3 ⟨rfl, s3, b3⟩
          have ho3 := ho.out.same (b3.block g (by omega) ho.out.lt)
          have cI := ho3.cellAt (j := m) (by omega)
          have cJ := ho3.cellAt (j := j) (by omega)
          have fI := ho3.freeAt m
          have fJ := ho3.freeAt j
          have o4 := ho3.set_ (j := m) (l[j]?.getD 0)
          have c4 := o4.cellAt (j := j) (by simp; omega)
          have f4 := o4.freeAt j
          have o5 := o4.set_ (j := j) (l[m]?.getD 0)
          have HO5 := Lib.hid (show OwnI _ g _ (swp l m j) from o5)
          have HS5 := Lib.hid ((s3.far (g := g) (k := m) (by omega) (.int .i64 (l[j]?.getD 0))).far (g := g) (k := j) (by omega) (.int .i64 (l[m]?.getD 0)))
          have HB5 := Lib.hid (((hb2.out.trans b3).far (g := g) (k := m) (by have := HG.out; omega) (.int .i64 (l[j]?.getD 0))).far (g := g) (k := j) (by have := HG.out; omega) (.int .i64 (l[m]?.getD 0)))
          have kI : (m : Int) < (k : Int) := by omega
          have kJ : (j : Int) < (k : Int) := by omega
          clear ho hs2 hb2 o4 o5 ho3 s3 b3
          generalize l[j]?.getD 0 = xj at *
          generalize l[m]?.getD 0 = xm at *
          generalize (l.set m xj)[j]?.getD 0 = yj at *
          go_wp2_with (fail)
          go_region
          all_goals
            go_wp2_with (fail)
            go_roundw
            case rel => exact ⟨_, i, t2, _, rfl, by omega, by omega, HST, Lib.hid HO5.out.drew, Lib.hid (by exact HS5.out), Lib.hid HB5.out.drew⟩
            case measure => simp [intOf]; omega
        · obtain ⟨e1, e2⟩ := shInv_end hv.out (by omega)
          have gd : decide (0 < ii) = false := by simp; omega
          have HE1 := Lib.hid e1
          have HE2 := Lib.hid e2
          clear e1 e2 gi hv
          go_wp2_with (fail)
          exact bodyPost_ret (v := .tuple #[.slice (some ⟨g, 0, none⟩) k k, .int .i64 0]) (by simp [results, Try.results13, go_sem]) rfl ⟨by rw [HG.out], by rw [HG.out, ← HE2.out]; exact ho.out, HE1.out ▸ hs2.out, hb2.out⟩
end Go.Proofs.Ytmidoicbbgdchaa
