/- The law WireReads. -/
import Derived.Test.YtocdjieaphkbdaaYd0
import Derived.Deep.RegionWith
import Derived.Deep.CutRange
namespace Go.Proofs.Ytocdjieaphkbdaa
open Go.RowKit

/-- A row of bytes that is written into. -/
def Row1 (w : World) (g n : Nat) : Prop := ∃ cur : Array Value, w.heap[g]? = some (.cells cur 5 (0, 0)) ∧ ∀ k, k < n → ∃ y : Int, cur[k]? = some (.int .u8 y)
theorem Ow.row1 {w : World} {B n c : Nat} {A : Option Addr} {bd : List Int} (h : Ow 5 .u8 w B (.slice A n c) bd) (hn : bd.length = n) (h0 : 0 < n) : ∃ g, A = some ⟨g, 0, none⟩ ∧ B ≤ g ∧ g < w.heap.size ∧ Row1 w g n := by
  obtain ⟨-, ⟨e, h1⟩ | ⟨g, cap, cur, e, hB, hg, h1, h2, h3, h4⟩⟩ := h
  · omega
  · injection e with e1 e2 e3
    refine ⟨g, e1, hB, (Array.getElem?_eq_some_iff.1 hg).1, cur, hg, fun k hk => ?_⟩
    have h5 := congrArg (fun l => l[k]?) h4
    simp only [List.getElem?_map] at h5
    rw [List.getElem?_take_of_lt (by omega), List.getElem?_eq_getElem (l := bd) (by omega)] at h5
    exact ⟨_, by simpa using h5⟩
theorem Row1.cell {w : World} {g n k : Nat} (h : Row1 w g n) (hk : k < n) : ∃ y : Int, w.cell? ⟨g, k, none⟩ = some (.int .u8 y) ∧ w.frozen? ⟨g, k, none⟩ = false := by
  obtain ⟨cur, h1, h2⟩ := h
  obtain ⟨y, hy⟩ := h2 k hk
  exact ⟨y, by rw [cell_of_row w g k cur 5 (0, 0) h1]; exact hy, by simp [World.frozen?, h1]⟩
theorem Row1.set_ {w : World} {g n k : Nat} (h : Row1 w g n) (y : Int) : Row1 (w.setCell ⟨g, k, none⟩ (.int .u8 y)) g n := by
  obtain ⟨cur, h1, h2⟩ := h
  refine ⟨_, heap_setCell_same w g k cur 5 _ h1, fun j hj => ?_⟩
  obtain ⟨z, hz⟩ := h2 j hj
  have hjl := (Array.getElem?_eq_some_iff.1 hz).1
  by_cases e : k = j
  · subst e
    exact ⟨y, by simp [Array.getElem?_setIfInBounds, hjl]⟩
  · exact ⟨z, by rw [Array.getElem?_setIfInBounds, if_neg e]; exact hz⟩
theorem Row1.ch {E : Nat → Prop} {w w' : World} {g n : Nat} (h : Row1 w g n) (hc : Ch E w w') (hg : ¬ E g) : Row1 w' g n := by
  obtain ⟨cur, h1, h2⟩ := h
  exact ⟨cur, (hc.block g (Array.getElem?_eq_some_iff.1 h1).1 hg).trans h1, h2⟩
theorem rBool_le1 {l : List Int} {v : Bool} {m : Nat} (h : rBool l = .good v m) : m ≤ l.length := by
  cases l with
  | nil => cases h
  | cons c r =>
    unfold rBool at h
    simp only at h
    split at h
    · cases h
    · injection h with h1 h2
      subst h2
      simp
theorem rText_le1 {l v : List Int} {lim : Int} {m : Nat} (h : rText l lim = .good v m) : m ≤ l.length := by
  obtain ⟨n, k, hc, rfl, hle, -⟩ := rText_le h
  omega
theorem rList_le1 {l v : List Int} {lim : Int} {m : Nat} (h : rList l lim = .good v m) : m ≤ l.length := by
  unfold rList at h
  split at h
  · cases h
  · rename_i n k hc
    exact (lst_le n [] k l v m (rUint_le (rCount_le hc).1).2.1 h).2.1
theorem two (w : World) (a b : Value) (T : TypeId) : (w.alloc (.cells #[a, b] T)).cell? ⟨w.heap.size, 0, none⟩ = some a ∧ (w.alloc (.cells #[a, b] T)).cell? ⟨w.heap.size, 1, none⟩ = some b :=
  ⟨by rw [World.cell?_alloc_at _ _ _ _ rfl]; rfl, by rw [World.cell?_alloc_at _ _ _ _ rfl]; rfl⟩
set_option maxRecDepth 100000 in
set_option maxHeartbeats 16000000 in
theorem reads_any {P : Nat → Prop} {A0 A : Option Addr} {n0 c0 n c : Nat} {bd : List Int} {al : Nat → Nat × Int} (w : World) (hl : bd.length = n0) (hr : Rw w P .u8 (.slice A0 n0 c0) bd) (hb : Bys8 bd) (hx : ActsAt w A n al) :
    Calls Try.prog 4 #[.slice A0 n0 c0, .slice A n c] w fun e w' => e = .returned (.bool true) ∧ Ch No w w' := by
  by_cases g1 : 300 < n0
  · have gI : (n0 : Int) > 300 := by omega
    clear hl hr hb hx g1
    go_enter Try.func4, Try.ntmps4
    go_wp2_with (fail)
    refine (known_any w).mono ?_
    rintro r w2 ⟨rfl, k2⟩
    go_wp2_with (fail)
    go_ret
    exact ⟨rfl, k2⟩
  have gI : ¬ (n0 : Int) > 300 := by omega
  by_cases g2 : 12 < n
  · have gJ : (n : Int) > 12 := by omega
    clear hl hr hb hx g1 g2
    go_enter Try.func4, Try.ntmps4
    go_wp2_with (fail)
    refine (known_any w).mono ?_
    rintro r w2 ⟨rfl, k2⟩
    go_wp2_with (fail)
    go_ret
    exact ⟨rfl, k2⟩
  have gJ : ¬ (n : Int) > 12 := by omega
  have hn12 : n ≤ 12 := by omega
  have hn300 : n0 ≤ 300 := by omega
  have HX := Lib.hid hx
  have HR := Lib.hid hr
  have HL := Lib.hid hl
  have HBy := Lib.hid hb
  have HE : Hid (Ow 5 .u8 (w.alloc (.cells #[] 5)) w.heap.size (.slice (some ⟨w.heap.size, 0, none⟩) 0 0) []) := Lib.hid (Ow.new (cs := []) rfl (by decide) (Nat.le_refl _))
  have HRa : Hid (Rw (w.alloc (.cells #[] 5)) P .u8 (.slice A0 n0 c0) bd) := Lib.hid (hr.ch (Ch.new w _) fun _ _ _ h' => h')
  clear hl hr hb hx g1 g2
  go_enter Try.func4, Try.ntmps4
  go_wp2_with (at_builtin; refine app rfl _ _ _ rfl Try.underlying28 infoU8 (by decide) rfl rfl HE.out (by simp) P bd HRa.out (by rw [HL.out]; simp only [List.length_nil]; omega) ?_)
  intro v4 w4 o4 k4 m4
  obtain ⟨A4, c4, rfl⟩ := o4.len HL.out
  have K4 : Hid (Ch No w w4) := Lib.hid ((Ch.new w _).trans k4 fun i hi h' => by
    have : w.heap.size = i := by simpa [Of, Value.ownBlock] using h'
    omega)
  have O4 := Lib.hid o4
  clear o4 k4 m4 HE HRa
  go_wp2_with (fail)
  refine (read_any O4.out.rw_ (by rw [HL.out]; omega) HBy.out).mono ?_
  rintro r w5 ⟨q, Aq, cq, rfl, hq, hrd, k5, hrw⟩
  rw [HL.out] at hrd hrw
  have HQ4 := Lib.hid hq
  have HQ : Hid (w.heap.size ≤ q) := Lib.hid (by have := K4.out.size; omega)
  have RD5 := Lib.hid hrd
  have RW5 := Lib.hid hrw
  have K5 := Lib.hid (K4.out.then k5)
  have RO5 : Hid (0 < n0 → ∃ g, A4 = some ⟨g, 0, none⟩ ∧ w.heap.size ≤ g ∧ g < w4.heap.size ∧ Row1 w5 g n0) := Lib.hid fun h0 => by
    obtain ⟨g, e, h1, h2, h3⟩ := O4.out.row1 HL.out h0
    exact ⟨g, e, h1, h2, h3.ch k5 fun h => h⟩
  clear hq hrd k5 hrw O4 K4
  go_wp2_with (fail)
  go_loopw [7] (fun i wx => ∃ k : Nat, i = .int .i64 k ∧ k ≤ n0 ∧ Hid (RdAt wx q Aq n0 cq bd 0 0) ∧ Hid (Rw wx (fun i => w4.heap.size ≤ i) .u8 (.slice Aq n0 cq) bd) ∧ Hid (Ch No w wx) ∧ Hid (0 < n0 → ∃ g, A4 = some ⟨g, 0, none⟩ ∧ w.heap.size ≤ g ∧ g < w4.heap.size ∧ Row1 wx g n0)) (fun i _ => n0 - (intOf i).toNat)
  case atStart => exact ⟨0, rfl, Nat.zero_le _, RD5, RW5, K5, RO5⟩
  case round =>
    obtain ⟨k, rfl, hk, hrd, hrw, hc, hro⟩ := hrel
    clear RD5 RW5 K5 RO5
    by_cases g : k < n0
    · have gK : (k : Int) < n0 := by omega
      obtain ⟨gb, rfl, hg1, hg2, hg3⟩ := hro.out (by omega)
      obtain ⟨y, cy, fy⟩ := hg3.cell g
      have RO := Lib.hid hg3
      have HG := Lib.hid (show w.heap.size ≤ gb ∧ gb < w4.heap.size from ⟨hg1, hg2⟩)
      have RD := hrd
      have RWq := hrw
      have HC := hc
      clear hro hg1 hg2 hg3 hrd hrw hc
      go_wp2_with (fail)
      go_roundw
      case rel => exact ⟨k + 1, by go_num, by omega, Lib.hid (RD.out.far RWq.out (Ch.put _ gb k _) (fun e => by have := HG.out; have := HQ4.out; omega) fun i _ h e => by have := HG.out; omega), Lib.hid (RWq.out.ch (Ch.put _ gb k _) fun i _ h e => by have := HG.out; omega), Lib.hid (HC.out.trans (Ch.put _ gb k _) fun i _ e => by have := HG.out; omega), Lib.hid fun _ => ⟨gb, rfl, HG.out.1, HG.out.2, RO.out.set_ _⟩⟩
      case measure => simp [intOf]; omega
    · obtain rfl : k = n0 := by omega
      have RD6 := hrd
      have K6 := hc
      clear hro hrd hrw hc
      go_wp2_with (fail)
      go_loopw [8, 9, 10] (fun av ev i wx => ∃ (j a : Nat) (er : Int), i = .int .i64 j ∧ av = .int .i64 a ∧ ev = .int .i64 er ∧ j ≤ n ∧ a ≤ k ∧ Hid (RdAt wx q Aq k cq bd er a) ∧ Hid (Ch No w wx)) (fun _ _ i _ => n - (intOf i).toNat)
      case atStart => exact ⟨0, 0, 0, rfl, rfl, rfl, Nat.zero_le _, Nat.zero_le _, RD6, K6⟩
      case round =>
        obtain ⟨j, a, er, rfl, rfl, rfl, hj, ha, hrd, hc⟩ := hrel
        clear RD6 K6
        by_cases g2 : j < n
        · have gJn : (j : Int) < n := by omega
          obtain ⟨b, o, rfl, hbl, hc0, hc1, hk256, hlm⟩ := HX.out j g2
          have e4 : o + 2 * j = o + j * 2 := by omega
          rw [e4] at hc0 hc1
          have d0 := hc.out.cell hc0 (fun h => h)
          have d1 := hc.out.cell hc1 (fun h => h)
          obtain ⟨kd, hkd⟩ : ∃ kd, (al j).1 = kd := ⟨_, rfl⟩
          obtain ⟨lm, hlmm⟩ : ∃ lm, (al j).2 = lm := ⟨_, rfl⟩
          rw [hkd] at d0 hk256
          rw [hlmm] at d1
          have HC := hc
          have HRD := hrd
          clear hbl hc0 hc1 hlm e4 hkd hlmm hc hrd
          go_upto_region 16 with (fail)
          obtain ⟨s, hs⟩ : ∃ s, wr.heap.size = s := ⟨_, rfl⟩
          obtain ⟨f0, f1⟩ := two wr (.int .u8 kd) (.int .i64 lm) 44
          have kn := Ch.new wr (.cells #[.int .u8 kd, .int .i64 lm] 44)
          have RD1 := Lib.hid (HRD.out.no kn)
          have K1 := Lib.hid (HC.out.then kn)
          have HQS : Hid (q < s) := Lib.hid (by rw [← hs]; exact HRD.out.lt)
          have RB1 : Hid (Rw (wr.alloc (.cells #[.int .u8 kd, .int .i64 lm] 44)) (fun i => i ≠ q) .u8 (.slice A0 k c0) bd) := Lib.hid ((HR.out.mono (P' := fun i => i ≠ q) fun i hi _ => by have := HQ.out; omega).ch K1.out fun _ _ _ h => h)
          rw [hs] at f0 f1 ⊢
          generalize wr.alloc (.cells #[.int .u8 kd, .int .i64 lm] 44) = W1 at *
          clear kn hs d0 d1 HRD HC
          obtain ⟨z, hz⟩ : ∃ z : Nat, kd % 8 = z := ⟨_, rfl⟩
          have hzi : (kd : Int) % 8 = (z : Int) := by omega
          have hk256 : (kd : Int) < 256 := by omega
          have hz8 : z < 8 := by omega
          clear hz
          by_cases he : er = 0
          · subst he
            obtain ⟨A1, c1, hsl, rb⟩ := slice_run RB1.out HL.out ha
            have RBD := Lib.hid rb
            clear rb
            rcases (by omega : z = 0 ∨ z = 1 ∨ z = 2 ∨ z = 3 ∨ z = 4 ∨ z = 5 ∨ z = 6 ∨ z = 7) with rfl | rfl | rfl | rfl | rfl | rfl | rfl | rfl
            · cases hR : rUint (bd.drop a) with
              | bad e =>
                have h1 : ((e : Int) != 0) = true := by have := rUint_err hR; simpa using this
                have h2 : ((e : Int) == 0) = false := by have := rUint_err hR; simpa using this
                have HNE := Lib.hid (rUint_err hR)
                have HRef : Hid (∀ W, Ch No W1 W → Calls Try.prog 16 #[.slice A1 (k - a) c1] W fun r W' => r = .returned (.tuple #[.int .i64 0, .int .i64 0, .int .i64 e]) ∧ Ch No W1 W' ∧ W'.cell? ⟨s, 0, none⟩ = some (.int .u8 kd) ∧ W'.cell? ⟨s, 1, none⟩ = some (.int .i64 lm)) := Lib.hid fun W kk => by
                  have HH := refUint_any (RBD.out.ch kk fun _ _ _ h => h) (by rw [List.length_drop, HL.out]) (bys_drop HBy.out a) (by omega)
                  rw [hR] at HH
                  simp only [tup] at HH
                  refine HH.mono ?_
                  rintro r W' ⟨rfl, rfl⟩
                  exact ⟨rfl, kk, kk.cell f0 (fun h => h), kk.cell f1 (fun h => h)⟩
                go_wp2_with (fail)
                refine (HRef.out _ (Ch.refl _ _)).mono ?_
                rintro r W2 ⟨rfl, k2, g0, g1⟩
                have RD2 := Lib.hid (RD1.out.no k2)
                have K2 := Lib.hid (K1.out.then k2)
                clear k2 f0 f1 HRef hsl
                have HRdr : Hid (∀ W, Ch No W2 W → Calls Try.prog 22 #[.pointer (some ⟨q, 0, none⟩)] W fun r W' => r = .returned (.int .i64 0) ∧ RdAt W' q Aq k cq bd (e : Int) a ∧ Ch No w W') := Lib.hid fun W kk => by
                  have HH := ruint_ok (RD2.out.no kk)
                  rw [hR] at HH
                  refine HH.mono ?_
                  rintro r W' ⟨k', rfl, h'⟩
                  exact ⟨rfl, h', K2.out.trans (kk.after k') fun i _ e => by have := HQ.out; omega⟩
                go_wp2_with (fail)
                refine (HRdr.out _ (Ch.refl _ _)).mono ?_
                rintro r W3 ⟨rfl, rd3, k3⟩
                have RD3 := Lib.hid rd3
                have K3 := Lib.hid k3
                clear rd3 k3 HRdr
                have HEnd : Hid (Calls Try.prog 33 #[.pointer (some ⟨q, 0, none⟩)] W3 fun r W' => r = .returned (.int .i64 (e : Int)) ∧ Ch No W3 W') := Lib.hid (by
                  have := rend_ok RD3.out
                  rwa [show endE (e : Int) a k = (e : Int) from by unfold endE; rw [if_neg HNE.out]] at this)
                go_wp2_with (fail)
                refine (at_ok RD3.out).mono ?_
                rintro r W4 ⟨rfl, hw⟩
                rw [hw]
                clear hw
                go_wp2_with (fail)
                refine (err_ok RD3.out).mono ?_
                rintro r W5 ⟨rfl, hw⟩
                rw [hw]
                clear hw
                go_wp2_with (fail)
                refine HEnd.out.mono ?_
                rintro r W6 ⟨rfl, k6⟩
                have RD6 := Lib.hid (RD3.out.no k6)
                have K6 := Lib.hid (K3.out.then k6)
                clear k6 HEnd RD3 K3
                go_wp2_with (fail)
                go_roundw
                case rel => exact ⟨j + 1, a, (e : Int), by go_num, by first | rfl | trivial, by first | rfl | trivial, by omega, by omega, RD6, K6⟩
                case measure => simp [intOf]; omega
              | good v m =>
                have hmk : m ≤ (bd.drop a).length := (rUint_le hR).2.1
                rw [List.length_drop, HL.out] at hmk
                obtain ⟨am, ham⟩ : ∃ am, a + m = am := ⟨_, rfl⟩
                have ham' : wrap64 ((a : Int) + (m : Int)) = (am : Int) := by unfold wrap64; omega
                have hamk : am ≤ k := by omega
                have HAM := Lib.hid ham
                clear ham hmk
                have HRef : Hid (∀ W, Ch No W1 W → Calls Try.prog 16 #[.slice A1 (k - a) c1] W fun r W' => r = .returned (.tuple #[.int .i64 v, .int .i64 m, .int .i64 0]) ∧ Ch No W1 W' ∧ W'.cell? ⟨s, 0, none⟩ = some (.int .u8 kd) ∧ W'.cell? ⟨s, 1, none⟩ = some (.int .i64 lm)) := Lib.hid fun W kk => by
                  have HH := refUint_any (RBD.out.ch kk fun _ _ _ h => h) (by rw [List.length_drop, HL.out]) (bys_drop HBy.out a) (by omega)
                  rw [hR] at HH
                  simp only [tup] at HH
                  refine HH.mono ?_
                  rintro r W' ⟨rfl, rfl⟩
                  exact ⟨rfl, kk, kk.cell f0 (fun h => h), kk.cell f1 (fun h => h)⟩
                go_wp2_with (fail)
                refine (HRef.out _ (Ch.refl _ _)).mono ?_
                rintro r W2 ⟨rfl, k2, g0, g1⟩
                have RD2 := Lib.hid (RD1.out.no k2)
                have K2 := Lib.hid (K1.out.then k2)
                clear k2 f0 f1 HRef hsl
                have HRdr : Hid (∀ W, Ch No W2 W → Calls Try.prog 22 #[.pointer (some ⟨q, 0, none⟩)] W fun r W' => r = .returned (.int .i64 v) ∧ RdAt W' q Aq k cq bd 0 am ∧ Ch No w W') := Lib.hid fun W kk => by
                  have HH := ruint_ok (RD2.out.no kk)
                  rw [hR] at HH
                  refine HH.mono ?_
                  rintro r W' ⟨k', ⟨x, rfl, hx⟩, h'⟩
                  rw [HAM.out] at h'
                  exact ⟨by rw [show x = .int .i64 v from hx], h', K2.out.trans (kk.after k') fun i _ e => by have := HQ.out; omega⟩
                go_wp2_with (fail)
                refine (HRdr.out _ (Ch.refl _ _)).mono ?_
                rintro r W3 ⟨rfl, rd3, k3⟩
                have RD3 := Lib.hid rd3
                have K3 := Lib.hid k3
                clear rd3 k3 HRdr
                by_cases hlt : am < k
                · have hltI : (am : Int) < k := by omega
                  have HEnd : Hid (Calls Try.prog 33 #[.pointer (some ⟨q, 0, none⟩)] W3 fun r W' => r = .returned (.int .i64 5) ∧ Ch No W3 W') := Lib.hid (by
                    have := rend_ok RD3.out
                    rwa [show endE 0 am k = 5 from by unfold endE; rw [if_pos rfl, if_pos hlt]] at this)
                  go_wp2_with (fail)
                  refine (at_ok RD3.out).mono ?_
                  rintro r W4 ⟨rfl, hw⟩
                  rw [hw]
                  clear hw
                  go_wp2_with (fail)
                  refine (err_ok RD3.out).mono ?_
                  rintro r W5 ⟨rfl, hw⟩
                  rw [hw]
                  clear hw
                  go_wp2_with (fail)
                  refine HEnd.out.mono ?_
                  rintro r W6 ⟨rfl, k6⟩
                  have RD6 := Lib.hid (RD3.out.no k6)
                  have K6 := Lib.hid (K3.out.then k6)
                  clear k6 HEnd RD3 K3
                  go_wp2_with (fail)
                  go_roundw
                  case rel => exact ⟨j + 1, am, 0, by go_num, by first | rfl | trivial, by first | rfl | trivial, by omega, by omega, RD6, K6⟩
                  case measure => simp [intOf]; omega
                · have hltI : ¬ (am : Int) < k := by omega
                  have HEnd : Hid (Calls Try.prog 33 #[.pointer (some ⟨q, 0, none⟩)] W3 fun r W' => r = .returned (.int .i64 0) ∧ Ch No W3 W') := Lib.hid (by
                    have := rend_ok RD3.out
                    rwa [show endE 0 am k = 0 from by unfold endE; rw [if_pos rfl, if_neg hlt]] at this)
                  go_wp2_with (fail)
                  refine (at_ok RD3.out).mono ?_
                  rintro r W4 ⟨rfl, hw⟩
                  rw [hw]
                  clear hw
                  go_wp2_with (fail)
                  refine (err_ok RD3.out).mono ?_
                  rintro r W5 ⟨rfl, hw⟩
                  rw [hw]
                  clear hw
                  go_wp2_with (fail)
                  refine HEnd.out.mono ?_
                  rintro r W6 ⟨rfl, k6⟩
                  have RD6 := Lib.hid (RD3.out.no k6)
                  have K6 := Lib.hid (K3.out.then k6)
                  clear k6 HEnd RD3 K3
                  go_wp2_with (fail)
                  go_roundw
                  case rel => exact ⟨j + 1, am, 0, by go_num, by first | rfl | trivial, by first | rfl | trivial, by omega, by omega, RD6, K6⟩
                  case measure => simp [intOf]; omega
            · cases hR : rInt (bd.drop a) with
              | bad e =>
                have h1 : ((e : Int) != 0) = true := by have := rInt_err hR; simpa using this
                have h2 : ((e : Int) == 0) = false := by have := rInt_err hR; simpa using this
                have HNE := Lib.hid (rInt_err hR)
                have HRef : Hid (∀ W, Ch No W1 W → Calls Try.prog 17 #[.slice A1 (k - a) c1] W fun r W' => r = .returned (.tuple #[.int .i64 0, .int .i64 0, .int .i64 e]) ∧ Ch No W1 W' ∧ W'.cell? ⟨s, 0, none⟩ = some (.int .u8 kd) ∧ W'.cell? ⟨s, 1, none⟩ = some (.int .i64 lm)) := Lib.hid fun W kk => by
                  have HH := refInt_any (RBD.out.ch kk fun _ _ _ h => h) (by rw [List.length_drop, HL.out]) (bys_drop HBy.out a) (by omega)
                  rw [hR] at HH
                  simp only [tup] at HH
                  refine HH.mono ?_
                  rintro r W' ⟨rfl, rfl⟩
                  exact ⟨rfl, kk, kk.cell f0 (fun h => h), kk.cell f1 (fun h => h)⟩
                go_wp2_with (fail)
                refine (HRef.out _ (Ch.refl _ _)).mono ?_
                rintro r W2 ⟨rfl, k2, g0, g1⟩
                have RD2 := Lib.hid (RD1.out.no k2)
                have K2 := Lib.hid (K1.out.then k2)
                clear k2 f0 f1 HRef hsl
                have HRdr : Hid (∀ W, Ch No W2 W → Calls Try.prog 23 #[.pointer (some ⟨q, 0, none⟩)] W fun r W' => r = .returned (.int .i64 0) ∧ RdAt W' q Aq k cq bd (e : Int) a ∧ Ch No w W') := Lib.hid fun W kk => by
                  have HH := rint_ok (RD2.out.no kk)
                  rw [hR] at HH
                  refine HH.mono ?_
                  rintro r W' ⟨k', rfl, h'⟩
                  exact ⟨rfl, h', K2.out.trans (kk.after k') fun i _ e => by have := HQ.out; omega⟩
                go_wp2_with (fail)
                refine (HRdr.out _ (Ch.refl _ _)).mono ?_
                rintro r W3 ⟨rfl, rd3, k3⟩
                have RD3 := Lib.hid rd3
                have K3 := Lib.hid k3
                clear rd3 k3 HRdr
                have HEnd : Hid (Calls Try.prog 33 #[.pointer (some ⟨q, 0, none⟩)] W3 fun r W' => r = .returned (.int .i64 (e : Int)) ∧ Ch No W3 W') := Lib.hid (by
                  have := rend_ok RD3.out
                  rwa [show endE (e : Int) a k = (e : Int) from by unfold endE; rw [if_neg HNE.out]] at this)
                go_wp2_with (fail)
                refine (at_ok RD3.out).mono ?_
                rintro r W4 ⟨rfl, hw⟩
                rw [hw]
                clear hw
                go_wp2_with (fail)
                refine (err_ok RD3.out).mono ?_
                rintro r W5 ⟨rfl, hw⟩
                rw [hw]
                clear hw
                go_wp2_with (fail)
                refine HEnd.out.mono ?_
                rintro r W6 ⟨rfl, k6⟩
                have RD6 := Lib.hid (RD3.out.no k6)
                have K6 := Lib.hid (K3.out.then k6)
                clear k6 HEnd RD3 K3
                go_wp2_with (fail)
                go_roundw
                case rel => exact ⟨j + 1, a, (e : Int), by go_num, by first | rfl | trivial, by first | rfl | trivial, by omega, by omega, RD6, K6⟩
                case measure => simp [intOf]; omega
              | good v m =>
                have hmk : m ≤ (bd.drop a).length := (rInt_le hR).2.1
                rw [List.length_drop, HL.out] at hmk
                obtain ⟨am, ham⟩ : ∃ am, a + m = am := ⟨_, rfl⟩
                have ham' : wrap64 ((a : Int) + (m : Int)) = (am : Int) := by unfold wrap64; omega
                have hamk : am ≤ k := by omega
                have HAM := Lib.hid ham
                clear ham hmk
                have HRef : Hid (∀ W, Ch No W1 W → Calls Try.prog 17 #[.slice A1 (k - a) c1] W fun r W' => r = .returned (.tuple #[.int .i64 v, .int .i64 m, .int .i64 0]) ∧ Ch No W1 W' ∧ W'.cell? ⟨s, 0, none⟩ = some (.int .u8 kd) ∧ W'.cell? ⟨s, 1, none⟩ = some (.int .i64 lm)) := Lib.hid fun W kk => by
                  have HH := refInt_any (RBD.out.ch kk fun _ _ _ h => h) (by rw [List.length_drop, HL.out]) (bys_drop HBy.out a) (by omega)
                  rw [hR] at HH
                  simp only [tup] at HH
                  refine HH.mono ?_
                  rintro r W' ⟨rfl, rfl⟩
                  exact ⟨rfl, kk, kk.cell f0 (fun h => h), kk.cell f1 (fun h => h)⟩
                go_wp2_with (fail)
                refine (HRef.out _ (Ch.refl _ _)).mono ?_
                rintro r W2 ⟨rfl, k2, g0, g1⟩
                have RD2 := Lib.hid (RD1.out.no k2)
                have K2 := Lib.hid (K1.out.then k2)
                clear k2 f0 f1 HRef hsl
                have HRdr : Hid (∀ W, Ch No W2 W → Calls Try.prog 23 #[.pointer (some ⟨q, 0, none⟩)] W fun r W' => r = .returned (.int .i64 v) ∧ RdAt W' q Aq k cq bd 0 am ∧ Ch No w W') := Lib.hid fun W kk => by
                  have HH := rint_ok (RD2.out.no kk)
                  rw [hR] at HH
                  refine HH.mono ?_
                  rintro r W' ⟨k', ⟨x, rfl, hx⟩, h'⟩
                  rw [HAM.out] at h'
                  exact ⟨by rw [show x = .int .i64 v from hx], h', K2.out.trans (kk.after k') fun i _ e => by have := HQ.out; omega⟩
                go_wp2_with (fail)
                refine (HRdr.out _ (Ch.refl _ _)).mono ?_
                rintro r W3 ⟨rfl, rd3, k3⟩
                have RD3 := Lib.hid rd3
                have K3 := Lib.hid k3
                clear rd3 k3 HRdr
                by_cases hlt : am < k
                · have hltI : (am : Int) < k := by omega
                  have HEnd : Hid (Calls Try.prog 33 #[.pointer (some ⟨q, 0, none⟩)] W3 fun r W' => r = .returned (.int .i64 5) ∧ Ch No W3 W') := Lib.hid (by
                    have := rend_ok RD3.out
                    rwa [show endE 0 am k = 5 from by unfold endE; rw [if_pos rfl, if_pos hlt]] at this)
                  go_wp2_with (fail)
                  refine (at_ok RD3.out).mono ?_
                  rintro r W4 ⟨rfl, hw⟩
                  rw [hw]
                  clear hw
                  go_wp2_with (fail)
                  refine (err_ok RD3.out).mono ?_
                  rintro r W5 ⟨rfl, hw⟩
                  rw [hw]
                  clear hw
                  go_wp2_with (fail)
                  refine HEnd.out.mono ?_
                  rintro r W6 ⟨rfl, k6⟩
                  have RD6 := Lib.hid (RD3.out.no k6)
                  have K6 := Lib.hid (K3.out.then k6)
                  clear k6 HEnd RD3 K3
                  go_wp2_with (fail)
                  go_roundw
                  case rel => exact ⟨j + 1, am, 0, by go_num, by first | rfl | trivial, by first | rfl | trivial, by omega, by omega, RD6, K6⟩
                  case measure => simp [intOf]; omega
                · have hltI : ¬ (am : Int) < k := by omega
                  have HEnd : Hid (Calls Try.prog 33 #[.pointer (some ⟨q, 0, none⟩)] W3 fun r W' => r = .returned (.int .i64 0) ∧ Ch No W3 W') := Lib.hid (by
                    have := rend_ok RD3.out
                    rwa [show endE 0 am k = 0 from by unfold endE; rw [if_pos rfl, if_neg hlt]] at this)
                  go_wp2_with (fail)
                  refine (at_ok RD3.out).mono ?_
                  rintro r W4 ⟨rfl, hw⟩
                  rw [hw]
                  clear hw
                  go_wp2_with (fail)
                  refine (err_ok RD3.out).mono ?_
                  rintro r W5 ⟨rfl, hw⟩
                  rw [hw]
                  clear hw
                  go_wp2_with (fail)
                  refine HEnd.out.mono ?_
                  rintro r W6 ⟨rfl, k6⟩
                  have RD6 := Lib.hid (RD3.out.no k6)
                  have K6 := Lib.hid (K3.out.then k6)
                  clear k6 HEnd RD3 K3
                  go_wp2_with (fail)
                  go_roundw
                  case rel => exact ⟨j + 1, am, 0, by go_num, by first | rfl | trivial, by first | rfl | trivial, by omega, by omega, RD6, K6⟩
                  case measure => simp [intOf]; omega
            · cases hR : rBool (bd.drop a) with
              | bad e =>
                have h1 : ((e : Int) != 0) = true := by have := rBool_err hR; simpa using this
                have h2 : ((e : Int) == 0) = false := by have := rBool_err hR; simpa using this
                have HNE := Lib.hid (rBool_err hR)
                have HRef : Hid (∀ W, Ch No W1 W → Calls Try.prog 18 #[.slice A1 (k - a) c1] W fun r W' => r = .returned (.tuple #[.bool false, .int .i64 0, .int .i64 e]) ∧ Ch No W1 W' ∧ W'.cell? ⟨s, 0, none⟩ = some (.int .u8 kd) ∧ W'.cell? ⟨s, 1, none⟩ = some (.int .i64 lm)) := Lib.hid fun W kk => by
                  have HH := refBool_any (RBD.out.ch kk fun _ _ _ h => h) (by rw [List.length_drop, HL.out]) (bys_drop HBy.out a)
                  rw [hR] at HH
                  simp only [tup] at HH
                  refine HH.mono ?_
                  rintro r W' ⟨rfl, rfl⟩
                  exact ⟨rfl, kk, kk.cell f0 (fun h => h), kk.cell f1 (fun h => h)⟩
                go_wp2_with (fail)
                refine (HRef.out _ (Ch.refl _ _)).mono ?_
                rintro r W2 ⟨rfl, k2, g0, g1⟩
                have RD2 := Lib.hid (RD1.out.no k2)
                have K2 := Lib.hid (K1.out.then k2)
                clear k2 f0 f1 HRef hsl
                have HRdr : Hid (∀ W, Ch No W2 W → Calls Try.prog 24 #[.pointer (some ⟨q, 0, none⟩)] W fun r W' => r = .returned (.bool false) ∧ RdAt W' q Aq k cq bd (e : Int) a ∧ Ch No w W') := Lib.hid fun W kk => by
                  have HH := rbool_ok (RD2.out.no kk)
                  rw [hR] at HH
                  refine HH.mono ?_
                  rintro r W' ⟨k', rfl, h'⟩
                  exact ⟨rfl, h', K2.out.trans (kk.after k') fun i _ e => by have := HQ.out; omega⟩
                go_wp2_with (fail)
                refine (HRdr.out _ (Ch.refl _ _)).mono ?_
                rintro r W3 ⟨rfl, rd3, k3⟩
                have RD3 := Lib.hid rd3
                have K3 := Lib.hid k3
                clear rd3 k3 HRdr
                have HEnd : Hid (Calls Try.prog 33 #[.pointer (some ⟨q, 0, none⟩)] W3 fun r W' => r = .returned (.int .i64 (e : Int)) ∧ Ch No W3 W') := Lib.hid (by
                  have := rend_ok RD3.out
                  rwa [show endE (e : Int) a k = (e : Int) from by unfold endE; rw [if_neg HNE.out]] at this)
                go_wp2_with (fail)
                refine (at_ok RD3.out).mono ?_
                rintro r W4 ⟨rfl, hw⟩
                rw [hw]
                clear hw
                go_wp2_with (fail)
                refine (err_ok RD3.out).mono ?_
                rintro r W5 ⟨rfl, hw⟩
                rw [hw]
                clear hw
                go_wp2_with (fail)
                refine HEnd.out.mono ?_
                rintro r W6 ⟨rfl, k6⟩
                have RD6 := Lib.hid (RD3.out.no k6)
                have K6 := Lib.hid (K3.out.then k6)
                clear k6 HEnd RD3 K3
                go_wp2_with (fail)
                go_roundw
                case rel => exact ⟨j + 1, a, (e : Int), by go_num, by first | rfl | trivial, by first | rfl | trivial, by omega, by omega, RD6, K6⟩
                case measure => simp [intOf]; omega
              | good v m =>
                have hmk : m ≤ (bd.drop a).length := (rBool_le1 hR)
                rw [List.length_drop, HL.out] at hmk
                obtain ⟨am, ham⟩ : ∃ am, a + m = am := ⟨_, rfl⟩
                have ham' : wrap64 ((a : Int) + (m : Int)) = (am : Int) := by unfold wrap64; omega
                have hamk : am ≤ k := by omega
                have HAM := Lib.hid ham
                clear ham hmk
                have HRef : Hid (∀ W, Ch No W1 W → Calls Try.prog 18 #[.slice A1 (k - a) c1] W fun r W' => r = .returned (.tuple #[.bool v, .int .i64 m, .int .i64 0]) ∧ Ch No W1 W' ∧ W'.cell? ⟨s, 0, none⟩ = some (.int .u8 kd) ∧ W'.cell? ⟨s, 1, none⟩ = some (.int .i64 lm)) := Lib.hid fun W kk => by
                  have HH := refBool_any (RBD.out.ch kk fun _ _ _ h => h) (by rw [List.length_drop, HL.out]) (bys_drop HBy.out a)
                  rw [hR] at HH
                  simp only [tup] at HH
                  refine HH.mono ?_
                  rintro r W' ⟨rfl, rfl⟩
                  exact ⟨rfl, kk, kk.cell f0 (fun h => h), kk.cell f1 (fun h => h)⟩
                go_wp2_with (fail)
                refine (HRef.out _ (Ch.refl _ _)).mono ?_
                rintro r W2 ⟨rfl, k2, g0, g1⟩
                have RD2 := Lib.hid (RD1.out.no k2)
                have K2 := Lib.hid (K1.out.then k2)
                clear k2 f0 f1 HRef hsl
                have HRdr : Hid (∀ W, Ch No W2 W → Calls Try.prog 24 #[.pointer (some ⟨q, 0, none⟩)] W fun r W' => r = .returned (.bool v) ∧ RdAt W' q Aq k cq bd 0 am ∧ Ch No w W') := Lib.hid fun W kk => by
                  have HH := rbool_ok (RD2.out.no kk)
                  rw [hR] at HH
                  refine HH.mono ?_
                  rintro r W' ⟨k', ⟨x, rfl, hx⟩, h'⟩
                  rw [HAM.out] at h'
                  exact ⟨by rw [show x = .bool v from hx], h', K2.out.trans (kk.after k') fun i _ e => by have := HQ.out; omega⟩
                go_wp2_with (fail)
                refine (HRdr.out _ (Ch.refl _ _)).mono ?_
                rintro r W3 ⟨rfl, rd3, k3⟩
                have RD3 := Lib.hid rd3
                have K3 := Lib.hid k3
                clear rd3 k3 HRdr
                by_cases hlt : am < k
                · have hltI : (am : Int) < k := by omega
                  have HEnd : Hid (Calls Try.prog 33 #[.pointer (some ⟨q, 0, none⟩)] W3 fun r W' => r = .returned (.int .i64 5) ∧ Ch No W3 W') := Lib.hid (by
                    have := rend_ok RD3.out
                    rwa [show endE 0 am k = 5 from by unfold endE; rw [if_pos rfl, if_pos hlt]] at this)
                  go_wp2_with (fail)
                  refine (at_ok RD3.out).mono ?_
                  rintro r W4 ⟨rfl, hw⟩
                  rw [hw]
                  clear hw
                  go_wp2_with (fail)
                  refine (err_ok RD3.out).mono ?_
                  rintro r W5 ⟨rfl, hw⟩
                  rw [hw]
                  clear hw
                  go_wp2_with (fail)
                  refine HEnd.out.mono ?_
                  rintro r W6 ⟨rfl, k6⟩
                  have RD6 := Lib.hid (RD3.out.no k6)
                  have K6 := Lib.hid (K3.out.then k6)
                  clear k6 HEnd RD3 K3
                  go_wp2_with (fail)
                  go_roundw
                  case rel => exact ⟨j + 1, am, 0, by go_num, by first | rfl | trivial, by first | rfl | trivial, by omega, by omega, RD6, K6⟩
                  case measure => simp [intOf]; omega
                · have hltI : ¬ (am : Int) < k := by omega
                  have HEnd : Hid (Calls Try.prog 33 #[.pointer (some ⟨q, 0, none⟩)] W3 fun r W' => r = .returned (.int .i64 0) ∧ Ch No W3 W') := Lib.hid (by
                    have := rend_ok RD3.out
                    rwa [show endE 0 am k = 0 from by unfold endE; rw [if_pos rfl, if_neg hlt]] at this)
                  go_wp2_with (fail)
                  refine (at_ok RD3.out).mono ?_
                  rintro r W4 ⟨rfl, hw⟩
                  rw [hw]
                  clear hw
                  go_wp2_with (fail)
                  refine (err_ok RD3.out).mono ?_
                  rintro r W5 ⟨rfl, hw⟩
                  rw [hw]
                  clear hw
                  go_wp2_with (fail)
                  refine HEnd.out.mono ?_
                  rintro r W6 ⟨rfl, k6⟩
                  have RD6 := Lib.hid (RD3.out.no k6)
                  have K6 := Lib.hid (K3.out.then k6)
                  clear k6 HEnd RD3 K3
                  go_wp2_with (fail)
                  go_roundw
                  case rel => exact ⟨j + 1, am, 0, by go_num, by first | rfl | trivial, by first | rfl | trivial, by omega, by omega, RD6, K6⟩
                  case measure => simp [intOf]; omega
            · cases hR : rCount (bd.drop a) lm with
              | bad e =>
                have h1 : ((e : Int) != 0) = true := by have := rCount_err hR; simpa using this
                have h2 : ((e : Int) == 0) = false := by have := rCount_err hR; simpa using this
                have HNE := Lib.hid (rCount_err hR)
                have HRef : Hid (∀ W, Ch No W1 W → Calls Try.prog 19 #[.slice A1 (k - a) c1, .int .i64 lm] W fun r W' => r = .returned (.tuple #[.int .i64 0, .int .i64 0, .int .i64 e]) ∧ Ch No W1 W' ∧ W'.cell? ⟨s, 0, none⟩ = some (.int .u8 kd) ∧ W'.cell? ⟨s, 1, none⟩ = some (.int .i64 lm)) := Lib.hid fun W kk => by
                  have HH := refCount_any (lim := lm) (RBD.out.ch kk fun _ _ _ h => h) (by rw [List.length_drop, HL.out]) (bys_drop HBy.out a) (by omega)
                  rw [hR] at HH
                  simp only [tup] at HH
                  refine HH.mono ?_
                  rintro r W' ⟨rfl, rfl⟩
                  exact ⟨rfl, kk, kk.cell f0 (fun h => h), kk.cell f1 (fun h => h)⟩
                have hrd1 : Ch No W1 W1.drew := (Ch.refl _ _).drew
                go_upto_region 28 with (fail)
                go_region_with (first | (go_at_call 19; refine (HRef.out _ hrd1).mono ?_; rintro r W2 ⟨rfl, k2, g0, g1⟩))
                all_goals
                  have RD2 := Lib.hid (RD1.out.no k2)
                  have K2 := Lib.hid (K1.out.then k2)
                  clear k2 f0 f1 HRef hsl
                  have HRdr : Hid (∀ W, Ch No W2 W → Calls Try.prog 25 #[.pointer (some ⟨q, 0, none⟩), .int .i64 lm] W fun r W' => r = .returned (.int .i64 0) ∧ RdAt W' q Aq k cq bd (e : Int) a ∧ Ch No w W') := Lib.hid fun W kk => by
                    have HH := rcount_ok (lim := lm) (RD2.out.no kk)
                    rw [hR] at HH
                    refine HH.mono ?_
                    rintro r W' ⟨k', rfl, h'⟩
                    exact ⟨rfl, h', K2.out.trans (kk.after k') fun i _ e => by have := HQ.out; omega⟩
                  go_wp2_with (fail)
                  refine (HRdr.out _ (Ch.refl _ _)).mono ?_
                  rintro r W3 ⟨rfl, rd3, k3⟩
                  have RD3 := Lib.hid rd3
                  have K3 := Lib.hid k3
                  clear rd3 k3 HRdr
                  have HEnd : Hid (Calls Try.prog 33 #[.pointer (some ⟨q, 0, none⟩)] W3 fun r W' => r = .returned (.int .i64 (e : Int)) ∧ Ch No W3 W') := Lib.hid (by
                    have := rend_ok RD3.out
                    rwa [show endE (e : Int) a k = (e : Int) from by unfold endE; rw [if_neg HNE.out]] at this)
                  go_wp2_with (fail)
                  refine (at_ok RD3.out).mono ?_
                  rintro r W4 ⟨rfl, hw⟩
                  rw [hw]
                  clear hw
                  go_wp2_with (fail)
                  refine (err_ok RD3.out).mono ?_
                  rintro r W5 ⟨rfl, hw⟩
                  rw [hw]
                  clear hw
                  go_wp2_with (fail)
                  refine HEnd.out.mono ?_
                  rintro r W6 ⟨rfl, k6⟩
                  have RD6 := Lib.hid (RD3.out.no k6)
                  have K6 := Lib.hid (K3.out.then k6)
                  clear k6 HEnd RD3 K3
                  go_wp2_with (fail)
                  go_roundw
                  case rel => exact ⟨j + 1, a, (e : Int), by go_num, by first | rfl | trivial, by first | rfl | trivial, by omega, by omega, RD6, K6⟩
                  case measure => simp [intOf]; omega
              | good v m =>
                have hmk : m ≤ (bd.drop a).length := (rUint_le (rCount_le hR).1).2.1
                rw [List.length_drop, HL.out] at hmk
                obtain ⟨am, ham⟩ : ∃ am, a + m = am := ⟨_, rfl⟩
                have ham' : wrap64 ((a : Int) + (m : Int)) = (am : Int) := by unfold wrap64; omega
                have hamk : am ≤ k := by omega
                have HAM := Lib.hid ham
                clear ham hmk
                have HRef : Hid (∀ W, Ch No W1 W → Calls Try.prog 19 #[.slice A1 (k - a) c1, .int .i64 lm] W fun r W' => r = .returned (.tuple #[.int .i64 v, .int .i64 m, .int .i64 0]) ∧ Ch No W1 W' ∧ W'.cell? ⟨s, 0, none⟩ = some (.int .u8 kd) ∧ W'.cell? ⟨s, 1, none⟩ = some (.int .i64 lm)) := Lib.hid fun W kk => by
                  have HH := refCount_any (lim := lm) (RBD.out.ch kk fun _ _ _ h => h) (by rw [List.length_drop, HL.out]) (bys_drop HBy.out a) (by omega)
                  rw [hR] at HH
                  simp only [tup] at HH
                  refine HH.mono ?_
                  rintro r W' ⟨rfl, rfl⟩
                  exact ⟨rfl, kk, kk.cell f0 (fun h => h), kk.cell f1 (fun h => h)⟩
                have hrd1 : Ch No W1 W1.drew := (Ch.refl _ _).drew
                go_upto_region 28 with (fail)
                go_region_with (first | (go_at_call 19; refine (HRef.out _ hrd1).mono ?_; rintro r W2 ⟨rfl, k2, g0, g1⟩))
                all_goals
                  have RD2 := Lib.hid (RD1.out.no k2)
                  have K2 := Lib.hid (K1.out.then k2)
                  clear k2 f0 f1 HRef hsl
                  have HRdr : Hid (∀ W, Ch No W2 W → Calls Try.prog 25 #[.pointer (some ⟨q, 0, none⟩), .int .i64 lm] W fun r W' => r = .returned (.int .i64 v) ∧ RdAt W' q Aq k cq bd 0 am ∧ Ch No w W') := Lib.hid fun W kk => by
                    have HH := rcount_ok (lim := lm) (RD2.out.no kk)
                    rw [hR] at HH
                    refine HH.mono ?_
                    rintro r W' ⟨k', ⟨x, rfl, hx⟩, h'⟩
                    rw [HAM.out] at h'
                    exact ⟨by rw [show x = .int .i64 v from hx], h', K2.out.trans (kk.after k') fun i _ e => by have := HQ.out; omega⟩
                  go_wp2_with (fail)
                  refine (HRdr.out _ (Ch.refl _ _)).mono ?_
                  rintro r W3 ⟨rfl, rd3, k3⟩
                  have RD3 := Lib.hid rd3
                  have K3 := Lib.hid k3
                  clear rd3 k3 HRdr
                  by_cases hlt : am < k
                  · have hltI : (am : Int) < k := by omega
                    have HEnd : Hid (Calls Try.prog 33 #[.pointer (some ⟨q, 0, none⟩)] W3 fun r W' => r = .returned (.int .i64 5) ∧ Ch No W3 W') := Lib.hid (by
                      have := rend_ok RD3.out
                      rwa [show endE 0 am k = 5 from by unfold endE; rw [if_pos rfl, if_pos hlt]] at this)
                    go_wp2_with (fail)
                    refine (at_ok RD3.out).mono ?_
                    rintro r W4 ⟨rfl, hw⟩
                    rw [hw]
                    clear hw
                    go_wp2_with (fail)
                    refine (err_ok RD3.out).mono ?_
                    rintro r W5 ⟨rfl, hw⟩
                    rw [hw]
                    clear hw
                    go_wp2_with (fail)
                    refine HEnd.out.mono ?_
                    rintro r W6 ⟨rfl, k6⟩
                    have RD6 := Lib.hid (RD3.out.no k6)
                    have K6 := Lib.hid (K3.out.then k6)
                    clear k6 HEnd RD3 K3
                    go_wp2_with (fail)
                    go_roundw
                    case rel => exact ⟨j + 1, am, 0, by go_num, by first | rfl | trivial, by first | rfl | trivial, by omega, by omega, RD6, K6⟩
                    case measure => simp [intOf]; omega
                  · have hltI : ¬ (am : Int) < k := by omega
                    have HEnd : Hid (Calls Try.prog 33 #[.pointer (some ⟨q, 0, none⟩)] W3 fun r W' => r = .returned (.int .i64 0) ∧ Ch No W3 W') := Lib.hid (by
                      have := rend_ok RD3.out
                      rwa [show endE 0 am k = 0 from by unfold endE; rw [if_pos rfl, if_neg hlt]] at this)
                    go_wp2_with (fail)
                    refine (at_ok RD3.out).mono ?_
                    rintro r W4 ⟨rfl, hw⟩
                    rw [hw]
                    clear hw
                    go_wp2_with (fail)
                    refine (err_ok RD3.out).mono ?_
                    rintro r W5 ⟨rfl, hw⟩
                    rw [hw]
                    clear hw
                    go_wp2_with (fail)
                    refine HEnd.out.mono ?_
                    rintro r W6 ⟨rfl, k6⟩
                    have RD6 := Lib.hid (RD3.out.no k6)
                    have K6 := Lib.hid (K3.out.then k6)
                    clear k6 HEnd RD3 K3
                    go_wp2_with (fail)
                    go_roundw
                    case rel => exact ⟨j + 1, am, 0, by go_num, by first | rfl | trivial, by first | rfl | trivial, by omega, by omega, RD6, K6⟩
                    case measure => simp [intOf]; omega
            · cases hR : rText (bd.drop a) lm with
              | bad e =>
                have h1 : ((e : Int) != 0) = true := by have := rText_err hR; simpa using this
                have h2 : ((e : Int) == 0) = false := by have := rText_err hR; simpa using this
                have HNE := Lib.hid (rText_err hR)
                have HRef : Hid (∀ W, Ch No W1 W → Calls Try.prog 20 #[.slice A1 (k - a) c1, .int .i64 lm] W fun r W' => r = .returned (.tuple #[.slice none 0 0, .int .i64 0, .int .i64 e]) ∧ Ch No W1 W' ∧ W'.cell? ⟨s, 0, none⟩ = some (.int .u8 kd) ∧ W'.cell? ⟨s, 1, none⟩ = some (.int .i64 lm)) := Lib.hid fun W kk => by
                  have HH := refBytes_any (lim := lm) (RBD.out.ch kk fun _ _ _ h => h) (by rw [List.length_drop, HL.out]) (bys_drop HBy.out a) (by omega)
                  rw [hR] at HH
                  simp only [tupX, Part] at HH
                  refine HH.mono ?_
                  rintro r W' ⟨x, rfl, hp, rfl⟩
                  exact ⟨rfl, kk, kk.cell f0 (fun h => h), kk.cell f1 (fun h => h)⟩
                have hrd1 : Ch No W1 W1.drew := (Ch.refl _ _).drew
                go_upto_region 31 with (fail)
                go_region_with (first | (go_at_call 20; refine (HRef.out _ hrd1).mono ?_; rintro r W2 ⟨rfl, k2, g0, g1⟩))
                all_goals
                  have RD2 := Lib.hid (RD1.out.no k2)
                  have K2 := Lib.hid (K1.out.then k2)
                  clear k2 f0 f1 HRef hsl
                  obtain ⟨sT, hsT⟩ : ∃ s, strOfNums [] = s := ⟨_, rfl⟩
                  have RS : Hid (Rw W2 (fun i => i ≠ q) .u8 (.slice none 0 0) []) := Lib.hid Rw.nil_
                  have HRdr : Hid (∀ W, Ch No W2 W → Calls Try.prog 26 #[.pointer (some ⟨q, 0, none⟩), .int .i64 lm] W fun r W' => (∃ x, r = .returned x ∧ (convert 28 9 x).run Try.prog W' = .ok (.string sT) W') ∧ (convert 28 9 (.slice none 0 0)).run Try.prog W' = .ok (.string sT) W' ∧ RdAt W' q Aq k cq bd (e : Int) a ∧ Ch No w W') := Lib.hid fun W kk => by
                    have HH := rbytes_ok (lim := lm) (RD2.out.no kk)
                    rw [hR] at HH
                    refine HH.mono ?_
                    rintro r W' ⟨k', rfl, h'⟩
                    exact ⟨⟨_, rfl, by rw [← hsT]; exact conv_rw (P := fun _ => True) Rw.nil_⟩, by rw [← hsT]; exact conv_rw (RS.out.ch (kk.after k') fun i _ h e => h e), h', K2.out.trans (kk.after k') fun i _ e => by have := HQ.out; omega⟩
                  clear hsT
                  go_wp2_with (fail)
                  refine (HRdr.out _ (Ch.refl _ _)).mono ?_
                  rintro r W3 ⟨⟨x, rfl, hcx⟩, hct, rd3, k3⟩
                  have RD3 := Lib.hid rd3
                  have K3 := Lib.hid k3
                  clear rd3 k3 HRdr
                  have HEnd : Hid (Calls Try.prog 33 #[.pointer (some ⟨q, 0, none⟩)] W3 fun r W' => r = .returned (.int .i64 (e : Int)) ∧ Ch No W3 W') := Lib.hid (by
                    have := rend_ok RD3.out
                    rwa [show endE (e : Int) a k = (e : Int) from by unfold endE; rw [if_neg HNE.out]] at this)
                  go_wp2_with (fail)
                  refine (at_ok RD3.out).mono ?_
                  rintro r W4 ⟨rfl, hw⟩
                  rw [hw]
                  clear hw
                  go_wp2_with (fail)
                  refine (err_ok RD3.out).mono ?_
                  rintro r W5 ⟨rfl, hw⟩
                  rw [hw]
                  clear hw
                  go_wp2_with (fail)
                  refine HEnd.out.mono ?_
                  rintro r W6 ⟨rfl, k6⟩
                  have RD6 := Lib.hid (RD3.out.no k6)
                  have K6 := Lib.hid (K3.out.then k6)
                  clear k6 HEnd RD3 K3
                  go_wp2_with (fail)
                  go_roundw
                  case rel => exact ⟨j + 1, a, (e : Int), by go_num, by first | rfl | trivial, by first | rfl | trivial, by omega, by omega, RD6, K6⟩
                  case measure => simp [intOf]; omega
              | good v m =>
                have hmk : m ≤ (bd.drop a).length := (rText_le1 hR)
                rw [List.length_drop, HL.out] at hmk
                obtain ⟨am, ham⟩ : ∃ am, a + m = am := ⟨_, rfl⟩
                have ham' : wrap64 ((a : Int) + (m : Int)) = (am : Int) := by unfold wrap64; omega
                have hamk : am ≤ k := by omega
                have HAM := Lib.hid ham
                clear ham hmk
                have HRef : Hid (∀ W, Ch No W1 W → Calls Try.prog 20 #[.slice A1 (k - a) c1, .int .i64 lm] W fun r W' => ∃ S, r = .returned (.tuple #[S, .int .i64 m, .int .i64 0]) ∧ Rw W' (fun i => i ≠ q) .u8 S v ∧ Ch No W1 W' ∧ W'.cell? ⟨s, 0, none⟩ = some (.int .u8 kd) ∧ W'.cell? ⟨s, 1, none⟩ = some (.int .i64 lm)) := Lib.hid fun W kk => by
                  have HH := refBytes_any (lim := lm) (RBD.out.ch kk fun _ _ _ h => h) (by rw [List.length_drop, HL.out]) (bys_drop HBy.out a) (by omega)
                  rw [hR] at HH
                  simp only [tupX, Part] at HH
                  refine HH.mono ?_
                  rintro r W' ⟨x, rfl, hp, rfl⟩
                  exact ⟨x, rfl, hp, kk, kk.cell f0 (fun h => h), kk.cell f1 (fun h => h)⟩
                have hrd1 : Ch No W1 W1.drew := (Ch.refl _ _).drew
                go_upto_region 31 with (fail)
                go_region_with (first | (go_at_call 20; refine (HRef.out _ hrd1).mono ?_; rintro r W2 ⟨S, rfl, rs, k2, g0, g1⟩))
                all_goals
                  have RD2 := Lib.hid (RD1.out.no k2)
                  have K2 := Lib.hid (K1.out.then k2)
                  have RS := Lib.hid rs
                  clear rs
                  clear k2 f0 f1 HRef hsl
                  obtain ⟨sT, hsT⟩ : ∃ s, strOfNums v = s := ⟨_, rfl⟩
                  have HRdr : Hid (∀ W, Ch No W2 W → Calls Try.prog 26 #[.pointer (some ⟨q, 0, none⟩), .int .i64 lm] W fun r W' => (∃ x, r = .returned x ∧ (convert 28 9 x).run Try.prog W' = .ok (.string sT) W') ∧ (convert 28 9 (S)).run Try.prog W' = .ok (.string sT) W' ∧ RdAt W' q Aq k cq bd 0 am ∧ Ch No w W') := Lib.hid fun W kk => by
                    have HH := rbytes_ok (lim := lm) (RD2.out.no kk)
                    rw [hR] at HH
                    refine HH.mono ?_
                    rintro r W' ⟨k', ⟨x, rfl, hx⟩, h'⟩
                    rw [HAM.out] at h'
                    exact ⟨⟨x, rfl, by rw [← hsT]; exact conv_rw (show Ow 5 .u8 W' (W.heap.size + 1) x v from hx).rw_⟩, by rw [← hsT]; exact conv_rw (RS.out.ch (kk.after k') fun i _ h e => h e), h', K2.out.trans (kk.after k') fun i _ e => by have := HQ.out; omega⟩
                  clear hsT
                  go_wp2_with (fail)
                  refine (HRdr.out _ (Ch.refl _ _)).mono ?_
                  rintro r W3 ⟨⟨x, rfl, hcx⟩, hct, rd3, k3⟩
                  have RD3 := Lib.hid rd3
                  have K3 := Lib.hid k3
                  clear rd3 k3 HRdr
                  by_cases hlt : am < k
                  · have hltI : (am : Int) < k := by omega
                    have HEnd : Hid (Calls Try.prog 33 #[.pointer (some ⟨q, 0, none⟩)] W3 fun r W' => r = .returned (.int .i64 5) ∧ Ch No W3 W') := Lib.hid (by
                      have := rend_ok RD3.out
                      rwa [show endE 0 am k = 5 from by unfold endE; rw [if_pos rfl, if_pos hlt]] at this)
                    go_wp2_with (fail)
                    refine (at_ok RD3.out).mono ?_
                    rintro r W4 ⟨rfl, hw⟩
                    rw [hw]
                    clear hw
                    go_wp2_with (fail)
                    refine (err_ok RD3.out).mono ?_
                    rintro r W5 ⟨rfl, hw⟩
                    rw [hw]
                    clear hw
                    go_wp2_with (fail)
                    refine HEnd.out.mono ?_
                    rintro r W6 ⟨rfl, k6⟩
                    have RD6 := Lib.hid (RD3.out.no k6)
                    have K6 := Lib.hid (K3.out.then k6)
                    clear k6 HEnd RD3 K3
                    go_wp2_with (fail)
                    go_roundw
                    case rel => exact ⟨j + 1, am, 0, by go_num, by first | rfl | trivial, by first | rfl | trivial, by omega, by omega, RD6, K6⟩
                    case measure => simp [intOf]; omega
                  · have hltI : ¬ (am : Int) < k := by omega
                    have HEnd : Hid (Calls Try.prog 33 #[.pointer (some ⟨q, 0, none⟩)] W3 fun r W' => r = .returned (.int .i64 0) ∧ Ch No W3 W') := Lib.hid (by
                      have := rend_ok RD3.out
                      rwa [show endE 0 am k = 0 from by unfold endE; rw [if_pos rfl, if_neg hlt]] at this)
                    go_wp2_with (fail)
                    refine (at_ok RD3.out).mono ?_
                    rintro r W4 ⟨rfl, hw⟩
                    rw [hw]
                    clear hw
                    go_wp2_with (fail)
                    refine (err_ok RD3.out).mono ?_
                    rintro r W5 ⟨rfl, hw⟩
                    rw [hw]
                    clear hw
                    go_wp2_with (fail)
                    refine HEnd.out.mono ?_
                    rintro r W6 ⟨rfl, k6⟩
                    have RD6 := Lib.hid (RD3.out.no k6)
                    have K6 := Lib.hid (K3.out.then k6)
                    clear k6 HEnd RD3 K3
                    go_wp2_with (fail)
                    go_roundw
                    case rel => exact ⟨j + 1, am, 0, by go_num, by first | rfl | trivial, by first | rfl | trivial, by omega, by omega, RD6, K6⟩
                    case measure => simp [intOf]; omega
            · cases hR : rText (bd.drop a) lm with
              | bad e =>
                have h1 : ((e : Int) != 0) = true := by have := rText_err hR; simpa using this
                have h2 : ((e : Int) == 0) = false := by have := rText_err hR; simpa using this
                have HNE := Lib.hid (rText_err hR)
                have HRef : Hid (∀ W, Ch No W1 W → Calls Try.prog 20 #[.slice A1 (k - a) c1, .int .i64 lm] W fun r W' => r = .returned (.tuple #[.slice none 0 0, .int .i64 0, .int .i64 e]) ∧ Ch No W1 W' ∧ W'.cell? ⟨s, 0, none⟩ = some (.int .u8 kd) ∧ W'.cell? ⟨s, 1, none⟩ = some (.int .i64 lm)) := Lib.hid fun W kk => by
                  have HH := refBytes_any (lim := lm) (RBD.out.ch kk fun _ _ _ h => h) (by rw [List.length_drop, HL.out]) (bys_drop HBy.out a) (by omega)
                  rw [hR] at HH
                  simp only [tupX, Part] at HH
                  refine HH.mono ?_
                  rintro r W' ⟨x, rfl, hp, rfl⟩
                  exact ⟨rfl, kk, kk.cell f0 (fun h => h), kk.cell f1 (fun h => h)⟩
                have hrd1 : Ch No W1 W1.drew := (Ch.refl _ _).drew
                go_upto_region 31 with (fail)
                go_region_with (first | (go_at_call 20; refine (HRef.out _ hrd1).mono ?_; rintro r W2 ⟨rfl, k2, g0, g1⟩))
                all_goals
                  have RD2 := Lib.hid (RD1.out.no k2)
                  have K2 := Lib.hid (K1.out.then k2)
                  clear k2 f0 f1 HRef hsl
                  obtain ⟨sT, hsT⟩ : ∃ s, strOfNums [] = s := ⟨_, rfl⟩
                  have RS : Hid (Rw W2 (fun i => i ≠ q) .u8 (.slice none 0 0) []) := Lib.hid Rw.nil_
                  have HRdr : Hid (∀ W, Ch No W2 W → Calls Try.prog 27 #[.pointer (some ⟨q, 0, none⟩), .int .i64 lm] W fun r W' => r = .returned (.string sT) ∧ (convert 28 9 (.slice none 0 0)).run Try.prog W' = .ok (.string sT) W' ∧ RdAt W' q Aq k cq bd (e : Int) a ∧ Ch No w W') := Lib.hid fun W kk => by
                    have HH := rstring_ok (lim := lm) (RD2.out.no kk)
                    rw [hR] at HH
                    refine HH.mono ?_
                    rintro r W' ⟨k', rfl, h'⟩
                    exact ⟨by rw [← hsT]; rfl, by rw [← hsT]; exact conv_rw (RS.out.ch (kk.after k') fun i _ h e => h e), h', K2.out.trans (kk.after k') fun i _ e => by have := HQ.out; omega⟩
                  have hct0 : (convert 28 9 (.slice none 0 0)).run Try.prog W2.drew = .ok (.string sT) W2.drew := by rw [← hsT]; exact conv_rw RS.out.drew
                  have hrd : Ch No W2 W2.drew := (Ch.refl _ _).drew
                  clear hsT
                  go_upto_region 54 with (fail)
                  go_region_with (first | (go_at_call 27; refine (HRdr.out _ hrd).mono ?_; rintro r W3 ⟨rfl, hct, rd3, k3⟩))
                  all_goals
                    clear hct hct0
                    have RD3 := Lib.hid rd3
                    have K3 := Lib.hid k3
                    clear rd3 k3 HRdr
                    have HEnd : Hid (Calls Try.prog 33 #[.pointer (some ⟨q, 0, none⟩)] W3 fun r W' => r = .returned (.int .i64 (e : Int)) ∧ Ch No W3 W') := Lib.hid (by
                      have := rend_ok RD3.out
                      rwa [show endE (e : Int) a k = (e : Int) from by unfold endE; rw [if_neg HNE.out]] at this)
                    go_wp2_with (fail)
                    refine (at_ok RD3.out).mono ?_
                    rintro r W4 ⟨rfl, hw⟩
                    rw [hw]
                    clear hw
                    go_wp2_with (fail)
                    refine (err_ok RD3.out).mono ?_
                    rintro r W5 ⟨rfl, hw⟩
                    rw [hw]
                    clear hw
                    go_wp2_with (fail)
                    refine HEnd.out.mono ?_
                    rintro r W6 ⟨rfl, k6⟩
                    have RD6 := Lib.hid (RD3.out.no k6)
                    have K6 := Lib.hid (K3.out.then k6)
                    clear k6 HEnd RD3 K3
                    go_wp2_with (fail)
                    go_roundw
                    case rel => exact ⟨j + 1, a, (e : Int), by go_num, by first | rfl | trivial, by first | rfl | trivial, by omega, by omega, RD6, K6⟩
                    case measure => simp [intOf]; omega
              | good v m =>
                have hmk : m ≤ (bd.drop a).length := (rText_le1 hR)
                rw [List.length_drop, HL.out] at hmk
                obtain ⟨am, ham⟩ : ∃ am, a + m = am := ⟨_, rfl⟩
                have ham' : wrap64 ((a : Int) + (m : Int)) = (am : Int) := by unfold wrap64; omega
                have hamk : am ≤ k := by omega
                have HAM := Lib.hid ham
                clear ham hmk
                have HRef : Hid (∀ W, Ch No W1 W → Calls Try.prog 20 #[.slice A1 (k - a) c1, .int .i64 lm] W fun r W' => ∃ S, r = .returned (.tuple #[S, .int .i64 m, .int .i64 0]) ∧ Rw W' (fun i => i ≠ q) .u8 S v ∧ Ch No W1 W' ∧ W'.cell? ⟨s, 0, none⟩ = some (.int .u8 kd) ∧ W'.cell? ⟨s, 1, none⟩ = some (.int .i64 lm)) := Lib.hid fun W kk => by
                  have HH := refBytes_any (lim := lm) (RBD.out.ch kk fun _ _ _ h => h) (by rw [List.length_drop, HL.out]) (bys_drop HBy.out a) (by omega)
                  rw [hR] at HH
                  simp only [tupX, Part] at HH
                  refine HH.mono ?_
                  rintro r W' ⟨x, rfl, hp, rfl⟩
                  exact ⟨x, rfl, hp, kk, kk.cell f0 (fun h => h), kk.cell f1 (fun h => h)⟩
                have hrd1 : Ch No W1 W1.drew := (Ch.refl _ _).drew
                go_upto_region 31 with (fail)
                go_region_with (first | (go_at_call 20; refine (HRef.out _ hrd1).mono ?_; rintro r W2 ⟨S, rfl, rs, k2, g0, g1⟩))
                all_goals
                  have RD2 := Lib.hid (RD1.out.no k2)
                  have K2 := Lib.hid (K1.out.then k2)
                  have RS := Lib.hid rs
                  clear rs
                  clear k2 f0 f1 HRef hsl
                  obtain ⟨sT, hsT⟩ : ∃ s, strOfNums v = s := ⟨_, rfl⟩
                  have HRdr : Hid (∀ W, Ch No W2 W → Calls Try.prog 27 #[.pointer (some ⟨q, 0, none⟩), .int .i64 lm] W fun r W' => r = .returned (.string sT) ∧ (convert 28 9 (S)).run Try.prog W' = .ok (.string sT) W' ∧ RdAt W' q Aq k cq bd 0 am ∧ Ch No w W') := Lib.hid fun W kk => by
                    have HH := rstring_ok (lim := lm) (RD2.out.no kk)
                    rw [hR] at HH
                    refine HH.mono ?_
                    rintro r W' ⟨k', ⟨x, rfl, hx⟩, h'⟩
                    rw [HAM.out] at h'
                    exact ⟨by rw [show x = .string (strOfNums v) from hx, hsT], by rw [← hsT]; exact conv_rw (RS.out.ch (kk.after k') fun i _ h e => h e), h', K2.out.trans (kk.after k') fun i _ e => by have := HQ.out; omega⟩
                  have hct0 : (convert 28 9 (S)).run Try.prog W2.drew = .ok (.string sT) W2.drew := by rw [← hsT]; exact conv_rw RS.out.drew
                  have hrd : Ch No W2 W2.drew := (Ch.refl _ _).drew
                  clear hsT
                  go_upto_region 54 with (fail)
                  go_region_with (first | (go_at_call 27; refine (HRdr.out _ hrd).mono ?_; rintro r W3 ⟨rfl, hct, rd3, k3⟩))
                  all_goals
                    clear hct hct0
                    have RD3 := Lib.hid rd3
                    have K3 := Lib.hid k3
                    clear rd3 k3 HRdr
                    by_cases hlt : am < k
                    · have hltI : (am : Int) < k := by omega
                      have HEnd : Hid (Calls Try.prog 33 #[.pointer (some ⟨q, 0, none⟩)] W3 fun r W' => r = .returned (.int .i64 5) ∧ Ch No W3 W') := Lib.hid (by
                        have := rend_ok RD3.out
                        rwa [show endE 0 am k = 5 from by unfold endE; rw [if_pos rfl, if_pos hlt]] at this)
                      go_wp2_with (fail)
                      refine (at_ok RD3.out).mono ?_
                      rintro r W4 ⟨rfl, hw⟩
                      rw [hw]
                      clear hw
                      go_wp2_with (fail)
                      refine (err_ok RD3.out).mono ?_
                      rintro r W5 ⟨rfl, hw⟩
                      rw [hw]
                      clear hw
                      go_wp2_with (fail)
                      refine HEnd.out.mono ?_
                      rintro r W6 ⟨rfl, k6⟩
                      have RD6 := Lib.hid (RD3.out.no k6)
                      have K6 := Lib.hid (K3.out.then k6)
                      clear k6 HEnd RD3 K3
                      go_wp2_with (fail)
                      go_roundw
                      case rel => exact ⟨j + 1, am, 0, by go_num, by first | rfl | trivial, by first | rfl | trivial, by omega, by omega, RD6, K6⟩
                      case measure => simp [intOf]; omega
                    · have hltI : ¬ (am : Int) < k := by omega
                      have HEnd : Hid (Calls Try.prog 33 #[.pointer (some ⟨q, 0, none⟩)] W3 fun r W' => r = .returned (.int .i64 0) ∧ Ch No W3 W') := Lib.hid (by
                        have := rend_ok RD3.out
                        rwa [show endE 0 am k = 0 from by unfold endE; rw [if_pos rfl, if_neg hlt]] at this)
                      go_wp2_with (fail)
                      refine (at_ok RD3.out).mono ?_
                      rintro r W4 ⟨rfl, hw⟩
                      rw [hw]
                      clear hw
                      go_wp2_with (fail)
                      refine (err_ok RD3.out).mono ?_
                      rintro r W5 ⟨rfl, hw⟩
                      rw [hw]
                      clear hw
                      go_wp2_with (fail)
                      refine HEnd.out.mono ?_
                      rintro r W6 ⟨rfl, k6⟩
                      have RD6 := Lib.hid (RD3.out.no k6)
                      have K6 := Lib.hid (K3.out.then k6)
                      clear k6 HEnd RD3 K3
                      go_wp2_with (fail)
                      go_roundw
                      case rel => exact ⟨j + 1, am, 0, by go_num, by first | rfl | trivial, by first | rfl | trivial, by omega, by omega, RD6, K6⟩
                      case measure => simp [intOf]; omega
            · cases hR : rList (bd.drop a) lm with
              | bad e =>
                have h1 : ((e : Int) != 0) = true := by have := rList_err hR; simpa using this
                have h2 : ((e : Int) == 0) = false := by have := rList_err hR; simpa using this
                have HNE := Lib.hid (rList_err hR)
                have HRef : Hid (∀ W, Ch No W1 W → Calls Try.prog 21 #[.slice A1 (k - a) c1, .int .i64 lm] W fun r W' => r = .returned (.tuple #[.slice none 0 0, .int .i64 0, .int .i64 e]) ∧ Ch No W1 W' ∧ W'.cell? ⟨s, 0, none⟩ = some (.int .u8 kd) ∧ W'.cell? ⟨s, 1, none⟩ = some (.int .i64 lm)) := Lib.hid fun W kk => by
                  have HH := refList_any (lim := lm) (RBD.out.ch kk fun _ _ _ h => h) (by rw [List.length_drop, HL.out]) (bys_drop HBy.out a) (by omega)
                  rw [hR] at HH
                  simp only [tupX, PartO] at HH
                  refine HH.mono ?_
                  rintro r W' ⟨x, rfl, hp, k'⟩
                  exact ⟨rfl, kk.then k', (kk.then k').cell f0 (fun h => h), (kk.then k').cell f1 (fun h => h)⟩
                have hrd1 : Ch No W1 W1.drew := (Ch.refl _ _).drew
                go_upto_region 33 with (fail)
                go_region_with (first | (go_at_call 21; refine (HRef.out _ hrd1).mono ?_; rintro r W2 ⟨rfl, k2, g0, g1⟩))
                all_goals
                  have RD2 := Lib.hid (RD1.out.no k2)
                  have K2 := Lib.hid (K1.out.then k2)
                  clear k2 f0 f1 HRef hsl
                  have RS : Hid (Rw W2 (fun i => i ≠ q) .i64 (.slice none 0 0) []) := Lib.hid Rw.nil_
                  have HRdr : Hid (∀ W, Ch No W2 W → Calls Try.prog 29 #[.pointer (some ⟨q, 0, none⟩), .int .i64 lm] W fun r W' => (∃ x, r = .returned x ∧ Hid (Calls Try.prog 28 #[x, .slice none 0 0] W' fun e w' => e = .returned (.bool true) ∧ Ch No W' w')) ∧ RdAt W' q Aq k cq bd (e : Int) a ∧ Ch No w W') := Lib.hid fun W kk => by
                    have HH := rints_ok (lim := lm) (RD2.out.no kk)
                    rw [hR] at HH
                    refine HH.mono ?_
                    rintro r W' ⟨k', rfl, h'⟩
                    exact ⟨⟨_, rfl, Lib.hid (equal_any (P := fun _ => True) Rw.nil_ (RS.out.ch (kk.after k') fun i _ h e => h e) (by simp))⟩, h', K2.out.trans (kk.after k') fun i _ e => by have := HQ.out; omega⟩
                  go_wp2_with (fail)
                  refine (HRdr.out _ (Ch.refl _ _)).mono ?_
                  rintro r W3' ⟨⟨x, rfl, heq⟩, rd3', k3'⟩
                  go_wp2_with (fail)
                  refine heq.out.mono ?_
                  rintro r W3 ⟨rfl, k4⟩
                  have rd3 := rd3'.no k4
                  have k3 := k3'.then k4
                  clear rd3' k3' k4 heq
                  have RD3 := Lib.hid rd3
                  have K3 := Lib.hid k3
                  clear rd3 k3 HRdr
                  have HEnd : Hid (Calls Try.prog 33 #[.pointer (some ⟨q, 0, none⟩)] W3 fun r W' => r = .returned (.int .i64 (e : Int)) ∧ Ch No W3 W') := Lib.hid (by
                    have := rend_ok RD3.out
                    rwa [show endE (e : Int) a k = (e : Int) from by unfold endE; rw [if_neg HNE.out]] at this)
                  go_wp2_with (fail)
                  refine (at_ok RD3.out).mono ?_
                  rintro r W4 ⟨rfl, hw⟩
                  rw [hw]
                  clear hw
                  go_wp2_with (fail)
                  refine (err_ok RD3.out).mono ?_
                  rintro r W5 ⟨rfl, hw⟩
                  rw [hw]
                  clear hw
                  go_wp2_with (fail)
                  refine HEnd.out.mono ?_
                  rintro r W6 ⟨rfl, k6⟩
                  have RD6 := Lib.hid (RD3.out.no k6)
                  have K6 := Lib.hid (K3.out.then k6)
                  clear k6 HEnd RD3 K3
                  go_wp2_with (fail)
                  go_roundw
                  case rel => exact ⟨j + 1, a, (e : Int), by go_num, by first | rfl | trivial, by first | rfl | trivial, by omega, by omega, RD6, K6⟩
                  case measure => simp [intOf]; omega
              | good v m =>
                have hmk : m ≤ (bd.drop a).length := (rList_le1 hR)
                rw [List.length_drop, HL.out] at hmk
                obtain ⟨am, ham⟩ : ∃ am, a + m = am := ⟨_, rfl⟩
                have ham' : wrap64 ((a : Int) + (m : Int)) = (am : Int) := by unfold wrap64; omega
                have hamk : am ≤ k := by omega
                have HAM := Lib.hid ham
                have HV : Hid (v.length < 10000) := Lib.hid (by
                  have h1 := rList_can (bys_drop HBy.out a) hR
                  have h2 := congrArg List.length h1.1
                  rw [List.length_append, List.length_take, List.length_drop, HL.out] at h2
                  have h3 := intsL_len v h1.2.2
                  omega)
                clear ham hmk
                have HRef : Hid (∀ W, Ch No W1 W → Calls Try.prog 21 #[.slice A1 (k - a) c1, .int .i64 lm] W fun r W' => ∃ S, r = .returned (.tuple #[S, .int .i64 m, .int .i64 0]) ∧ Rw W' (fun i => i ≠ q) .i64 S v ∧ Ch No W1 W' ∧ W'.cell? ⟨s, 0, none⟩ = some (.int .u8 kd) ∧ W'.cell? ⟨s, 1, none⟩ = some (.int .i64 lm)) := Lib.hid fun W kk => by
                  have HH := refList_any (lim := lm) (RBD.out.ch kk fun _ _ _ h => h) (by rw [List.length_drop, HL.out]) (bys_drop HBy.out a) (by omega)
                  rw [hR] at HH
                  simp only [tupX, PartO] at HH
                  refine HH.mono ?_
                  rintro r W' ⟨x, rfl, hp, k'⟩
                  have hqW := (RD1.out.no kk).lt
                  exact ⟨x, rfl, hp.rw_.mono fun i _ h => by have := (hp.lt h).1; omega, kk.then k', (kk.then k').cell f0 (fun h => h), (kk.then k').cell f1 (fun h => h)⟩
                have hrd1 : Ch No W1 W1.drew := (Ch.refl _ _).drew
                go_upto_region 33 with (fail)
                go_region_with (first | (go_at_call 21; refine (HRef.out _ hrd1).mono ?_; rintro r W2 ⟨S, rfl, rs, k2, g0, g1⟩))
                all_goals
                  have RD2 := Lib.hid (RD1.out.no k2)
                  have K2 := Lib.hid (K1.out.then k2)
                  have RS := Lib.hid rs
                  clear rs
                  clear k2 f0 f1 HRef hsl
                  have HRdr : Hid (∀ W, Ch No W2 W → Calls Try.prog 29 #[.pointer (some ⟨q, 0, none⟩), .int .i64 lm] W fun r W' => (∃ x, r = .returned x ∧ Hid (Calls Try.prog 28 #[x, S] W' fun e w' => e = .returned (.bool true) ∧ Ch No W' w')) ∧ RdAt W' q Aq k cq bd 0 am ∧ Ch No w W') := Lib.hid fun W kk => by
                    have HH := rints_ok (lim := lm) (RD2.out.no kk)
                    rw [hR] at HH
                    refine HH.mono ?_
                    rintro r W' ⟨k', ⟨x, rfl, hx⟩, h'⟩
                    rw [HAM.out] at h'
                    exact ⟨⟨x, rfl, Lib.hid (equal_any (show Ow 3 .i64 W' (W.heap.size + 1) x v from hx).rw_ (RS.out.ch (kk.after k') fun i _ h e => h e) HV.out)⟩, h', K2.out.trans (kk.after k') fun i _ e => by have := HQ.out; omega⟩
                  go_wp2_with (fail)
                  refine (HRdr.out _ (Ch.refl _ _)).mono ?_
                  rintro r W3' ⟨⟨x, rfl, heq⟩, rd3', k3'⟩
                  go_wp2_with (fail)
                  refine heq.out.mono ?_
                  rintro r W3 ⟨rfl, k4⟩
                  have rd3 := rd3'.no k4
                  have k3 := k3'.then k4
                  clear rd3' k3' k4 heq
                  have RD3 := Lib.hid rd3
                  have K3 := Lib.hid k3
                  clear rd3 k3 HRdr
                  by_cases hlt : am < k
                  · have hltI : (am : Int) < k := by omega
                    have HEnd : Hid (Calls Try.prog 33 #[.pointer (some ⟨q, 0, none⟩)] W3 fun r W' => r = .returned (.int .i64 5) ∧ Ch No W3 W') := Lib.hid (by
                      have := rend_ok RD3.out
                      rwa [show endE 0 am k = 5 from by unfold endE; rw [if_pos rfl, if_pos hlt]] at this)
                    go_wp2_with (fail)
                    refine (at_ok RD3.out).mono ?_
                    rintro r W4 ⟨rfl, hw⟩
                    rw [hw]
                    clear hw
                    go_wp2_with (fail)
                    refine (err_ok RD3.out).mono ?_
                    rintro r W5 ⟨rfl, hw⟩
                    rw [hw]
                    clear hw
                    go_wp2_with (fail)
                    refine HEnd.out.mono ?_
                    rintro r W6 ⟨rfl, k6⟩
                    have RD6 := Lib.hid (RD3.out.no k6)
                    have K6 := Lib.hid (K3.out.then k6)
                    clear k6 HEnd RD3 K3
                    go_wp2_with (fail)
                    go_roundw
                    case rel => exact ⟨j + 1, am, 0, by go_num, by first | rfl | trivial, by first | rfl | trivial, by omega, by omega, RD6, K6⟩
                    case measure => simp [intOf]; omega
                  · have hltI : ¬ (am : Int) < k := by omega
                    have HEnd : Hid (Calls Try.prog 33 #[.pointer (some ⟨q, 0, none⟩)] W3 fun r W' => r = .returned (.int .i64 0) ∧ Ch No W3 W') := Lib.hid (by
                      have := rend_ok RD3.out
                      rwa [show endE 0 am k = 0 from by unfold endE; rw [if_pos rfl, if_neg hlt]] at this)
                    go_wp2_with (fail)
                    refine (at_ok RD3.out).mono ?_
                    rintro r W4 ⟨rfl, hw⟩
                    rw [hw]
                    clear hw
                    go_wp2_with (fail)
                    refine (err_ok RD3.out).mono ?_
                    rintro r W5 ⟨rfl, hw⟩
                    rw [hw]
                    clear hw
                    go_wp2_with (fail)
                    refine HEnd.out.mono ?_
                    rintro r W6 ⟨rfl, k6⟩
                    have RD6 := Lib.hid (RD3.out.no k6)
                    have K6 := Lib.hid (K3.out.then k6)
                    clear k6 HEnd RD3 K3
                    go_wp2_with (fail)
                    go_roundw
                    case rel => exact ⟨j + 1, am, 0, by go_num, by first | rfl | trivial, by first | rfl | trivial, by omega, by omega, RD6, K6⟩
                    case measure => simp [intOf]; omega
            · clear hsl
              obtain ⟨e4, he4⟩ : ∃ e, bits .and .i64 lm 3 = e := ⟨_, rfl⟩
              have HRdr : Hid (∀ W, Ch No W1 W → Calls Try.prog 30 #[.pointer (some ⟨q, 0, none⟩), .int .i64 e4] W fun r W' => r = .returned (.tuple #[]) ∧ RdAt W' q Aq k cq bd e4 a ∧ Ch No w W') := Lib.hid fun W kk => by
                refine (rfail_ok (e := e4) (RD1.out.no kk)).mono ?_
                rintro r W' ⟨rfl, h', k'⟩
                rw [if_pos rfl] at h'
                exact ⟨rfl, h', K1.out.trans (kk.after k') fun i _ e => by have := HQ.out; omega⟩
              by_cases h4 : e4 = 0
              · subst h4
                go_wp2_with (fail)
                refine (HRdr.out _ (Ch.refl _ _)).mono ?_
                rintro r W3 ⟨rfl, rd3, k3⟩
                have RD3 := Lib.hid rd3
                have K3 := Lib.hid k3
                clear rd3 k3 HRdr
                by_cases hlt : a < k
                · have hltI : (a : Int) < k := by omega
                  have HEnd : Hid (Calls Try.prog 33 #[.pointer (some ⟨q, 0, none⟩)] W3 fun r W' => r = .returned (.int .i64 5) ∧ Ch No W3 W') := Lib.hid (by
                    have := rend_ok RD3.out
                    rwa [show endE 0 a k = 5 from by unfold endE; rw [if_pos rfl, if_pos hlt]] at this)
                  go_wp2_with (fail)
                  refine (at_ok RD3.out).mono ?_
                  rintro r W4 ⟨rfl, hw⟩
                  rw [hw]
                  clear hw
                  go_wp2_with (fail)
                  refine (err_ok RD3.out).mono ?_
                  rintro r W5 ⟨rfl, hw⟩
                  rw [hw]
                  clear hw
                  go_wp2_with (fail)
                  refine HEnd.out.mono ?_
                  rintro r W6 ⟨rfl, k6⟩
                  have RD6 := Lib.hid (RD3.out.no k6)
                  have K6 := Lib.hid (K3.out.then k6)
                  clear k6 HEnd RD3 K3
                  go_wp2_with (fail)
                  go_roundw
                  case rel => exact ⟨j + 1, a, 0, by go_num, by first | rfl | trivial, by first | rfl | trivial, by omega, by omega, RD6, K6⟩
                  case measure => simp [intOf]; omega
                · have hltI : ¬ (a : Int) < k := by omega
                  have HEnd : Hid (Calls Try.prog 33 #[.pointer (some ⟨q, 0, none⟩)] W3 fun r W' => r = .returned (.int .i64 0) ∧ Ch No W3 W') := Lib.hid (by
                    have := rend_ok RD3.out
                    rwa [show endE 0 a k = 0 from by unfold endE; rw [if_pos rfl, if_neg hlt]] at this)
                  go_wp2_with (fail)
                  refine (at_ok RD3.out).mono ?_
                  rintro r W4 ⟨rfl, hw⟩
                  rw [hw]
                  clear hw
                  go_wp2_with (fail)
                  refine (err_ok RD3.out).mono ?_
                  rintro r W5 ⟨rfl, hw⟩
                  rw [hw]
                  clear hw
                  go_wp2_with (fail)
                  refine HEnd.out.mono ?_
                  rintro r W6 ⟨rfl, k6⟩
                  have RD6 := Lib.hid (RD3.out.no k6)
                  have K6 := Lib.hid (K3.out.then k6)
                  clear k6 HEnd RD3 K3
                  go_wp2_with (fail)
                  go_roundw
                  case rel => exact ⟨j + 1, a, 0, by go_num, by first | rfl | trivial, by first | rfl | trivial, by omega, by omega, RD6, K6⟩
                  case measure => simp [intOf]; omega
              · have h1 : (e4 != 0) = true := by simpa using h4
                have h2 : (e4 == 0) = false := by simpa using h4
                have HNE := Lib.hid h4
                go_wp2_with (fail)
                refine (HRdr.out _ (Ch.refl _ _)).mono ?_
                rintro r W3 ⟨rfl, rd3, k3⟩
                have RD3 := Lib.hid rd3
                have K3 := Lib.hid k3
                clear rd3 k3 HRdr
                have HEnd : Hid (Calls Try.prog 33 #[.pointer (some ⟨q, 0, none⟩)] W3 fun r W' => r = .returned (.int .i64 e4) ∧ Ch No W3 W') := Lib.hid (by
                  have := rend_ok RD3.out
                  rwa [show endE e4 a k = e4 from by unfold endE; rw [if_neg HNE.out]] at this)
                go_wp2_with (fail)
                refine (at_ok RD3.out).mono ?_
                rintro r W4 ⟨rfl, hw⟩
                rw [hw]
                clear hw
                go_wp2_with (fail)
                refine (err_ok RD3.out).mono ?_
                rintro r W5 ⟨rfl, hw⟩
                rw [hw]
                clear hw
                go_wp2_with (fail)
                refine HEnd.out.mono ?_
                rintro r W6 ⟨rfl, k6⟩
                have RD6 := Lib.hid (RD3.out.no k6)
                have K6 := Lib.hid (K3.out.then k6)
                clear k6 HEnd RD3 K3
                go_wp2_with (fail)
                go_roundw
                case rel => exact ⟨j + 1, a, e4, by go_num, by first | rfl | trivial, by first | rfl | trivial, by omega, by omega, RD6, K6⟩
                case measure => simp [intOf]; omega
          · have e0 : (er == 0) = false := by simpa using he
            have e1 : (er != 0) = true := by simpa using he
            have HNE := Lib.hid he
            rcases (by omega : z = 0 ∨ z = 1 ∨ z = 2 ∨ z = 3 ∨ z = 4 ∨ z = 5 ∨ z = 6 ∨ z = 7) with rfl | rfl | rfl | rfl | rfl | rfl | rfl | rfl
            · have HRdr : Hid (∀ W, Ch No W1 W → Calls Try.prog 22 #[.pointer (some ⟨q, 0, none⟩)] W fun r W' => r = .returned (.int .i64 0) ∧ RdAt W' q Aq k cq bd er a ∧ Ch No w W') := Lib.hid fun W kk => by
                have HH := ruint_err (RD1.out.no kk) he
                refine HH.mono ?_
                rintro r W' ⟨rfl, k'⟩
                exact ⟨rfl, (RD1.out.no kk).no k', (K1.out.then kk).then k'⟩
              go_wp2_with (fail)
              refine (HRdr.out _ (Ch.refl _ _)).mono ?_
              rintro r W3 ⟨rfl, rd3, k3⟩
              have RD3 := Lib.hid rd3
              have K3 := Lib.hid k3
              clear rd3 k3 HRdr
              have HEnd : Hid (Calls Try.prog 33 #[.pointer (some ⟨q, 0, none⟩)] W3 fun r W' => r = .returned (.int .i64 er) ∧ Ch No W3 W') := Lib.hid (by
                have := rend_ok RD3.out
                rwa [show endE er a k = er from by unfold endE; rw [if_neg HNE.out]] at this)
              go_wp2_with (fail)
              refine (at_ok RD3.out).mono ?_
              rintro r W4 ⟨rfl, hw⟩
              rw [hw]
              clear hw
              go_wp2_with (fail)
              refine (err_ok RD3.out).mono ?_
              rintro r W5 ⟨rfl, hw⟩
              rw [hw]
              clear hw
              go_wp2_with (fail)
              refine HEnd.out.mono ?_
              rintro r W6 ⟨rfl, k6⟩
              have RD6 := Lib.hid (RD3.out.no k6)
              have K6 := Lib.hid (K3.out.then k6)
              clear k6 HEnd RD3 K3
              go_wp2_with (fail)
              go_roundw
              case rel => exact ⟨j + 1, a, er, by go_num, by first | rfl | trivial, by first | rfl | trivial, by omega, by omega, RD6, K6⟩
              case measure => simp [intOf]; omega
            · have HRdr : Hid (∀ W, Ch No W1 W → Calls Try.prog 23 #[.pointer (some ⟨q, 0, none⟩)] W fun r W' => r = .returned (.int .i64 0) ∧ RdAt W' q Aq k cq bd er a ∧ Ch No w W') := Lib.hid fun W kk => by
                have HH := rint_err (RD1.out.no kk) he
                refine HH.mono ?_
                rintro r W' ⟨rfl, k'⟩
                exact ⟨rfl, (RD1.out.no kk).no k', (K1.out.then kk).then k'⟩
              go_wp2_with (fail)
              refine (HRdr.out _ (Ch.refl _ _)).mono ?_
              rintro r W3 ⟨rfl, rd3, k3⟩
              have RD3 := Lib.hid rd3
              have K3 := Lib.hid k3
              clear rd3 k3 HRdr
              have HEnd : Hid (Calls Try.prog 33 #[.pointer (some ⟨q, 0, none⟩)] W3 fun r W' => r = .returned (.int .i64 er) ∧ Ch No W3 W') := Lib.hid (by
                have := rend_ok RD3.out
                rwa [show endE er a k = er from by unfold endE; rw [if_neg HNE.out]] at this)
              go_wp2_with (fail)
              refine (at_ok RD3.out).mono ?_
              rintro r W4 ⟨rfl, hw⟩
              rw [hw]
              clear hw
              go_wp2_with (fail)
              refine (err_ok RD3.out).mono ?_
              rintro r W5 ⟨rfl, hw⟩
              rw [hw]
              clear hw
              go_wp2_with (fail)
              refine HEnd.out.mono ?_
              rintro r W6 ⟨rfl, k6⟩
              have RD6 := Lib.hid (RD3.out.no k6)
              have K6 := Lib.hid (K3.out.then k6)
              clear k6 HEnd RD3 K3
              go_wp2_with (fail)
              go_roundw
              case rel => exact ⟨j + 1, a, er, by go_num, by first | rfl | trivial, by first | rfl | trivial, by omega, by omega, RD6, K6⟩
              case measure => simp [intOf]; omega
            · have HRdr : Hid (∀ W, Ch No W1 W → Calls Try.prog 24 #[.pointer (some ⟨q, 0, none⟩)] W fun r W' => r = .returned (.bool false) ∧ RdAt W' q Aq k cq bd er a ∧ Ch No w W') := Lib.hid fun W kk => by
                have HH := rbool_err (RD1.out.no kk) he
                refine HH.mono ?_
                rintro r W' ⟨rfl, k'⟩
                exact ⟨rfl, (RD1.out.no kk).no k', (K1.out.then kk).then k'⟩
              go_wp2_with (fail)
              refine (HRdr.out _ (Ch.refl _ _)).mono ?_
              rintro r W3 ⟨rfl, rd3, k3⟩
              have RD3 := Lib.hid rd3
              have K3 := Lib.hid k3
              clear rd3 k3 HRdr
              have HEnd : Hid (Calls Try.prog 33 #[.pointer (some ⟨q, 0, none⟩)] W3 fun r W' => r = .returned (.int .i64 er) ∧ Ch No W3 W') := Lib.hid (by
                have := rend_ok RD3.out
                rwa [show endE er a k = er from by unfold endE; rw [if_neg HNE.out]] at this)
              go_wp2_with (fail)
              refine (at_ok RD3.out).mono ?_
              rintro r W4 ⟨rfl, hw⟩
              rw [hw]
              clear hw
              go_wp2_with (fail)
              refine (err_ok RD3.out).mono ?_
              rintro r W5 ⟨rfl, hw⟩
              rw [hw]
              clear hw
              go_wp2_with (fail)
              refine HEnd.out.mono ?_
              rintro r W6 ⟨rfl, k6⟩
              have RD6 := Lib.hid (RD3.out.no k6)
              have K6 := Lib.hid (K3.out.then k6)
              clear k6 HEnd RD3 K3
              go_wp2_with (fail)
              go_roundw
              case rel => exact ⟨j + 1, a, er, by go_num, by first | rfl | trivial, by first | rfl | trivial, by omega, by omega, RD6, K6⟩
              case measure => simp [intOf]; omega
            · have HRdr : Hid (∀ W, Ch No W1 W → Calls Try.prog 25 #[.pointer (some ⟨q, 0, none⟩), .int .i64 lm] W fun r W' => r = .returned (.int .i64 0) ∧ RdAt W' q Aq k cq bd er a ∧ Ch No w W') := Lib.hid fun W kk => by
                have HH := rcount_err (lim := lm) (RD1.out.no kk) he
                refine HH.mono ?_
                rintro r W' ⟨rfl, k'⟩
                exact ⟨rfl, (RD1.out.no kk).no k', (K1.out.then kk).then k'⟩
              go_wp2_with (fail)
              refine (HRdr.out _ (Ch.refl _ _)).mono ?_
              rintro r W3 ⟨rfl, rd3, k3⟩
              have RD3 := Lib.hid rd3
              have K3 := Lib.hid k3
              clear rd3 k3 HRdr
              have HEnd : Hid (Calls Try.prog 33 #[.pointer (some ⟨q, 0, none⟩)] W3 fun r W' => r = .returned (.int .i64 er) ∧ Ch No W3 W') := Lib.hid (by
                have := rend_ok RD3.out
                rwa [show endE er a k = er from by unfold endE; rw [if_neg HNE.out]] at this)
              go_wp2_with (fail)
              refine (at_ok RD3.out).mono ?_
              rintro r W4 ⟨rfl, hw⟩
              rw [hw]
              clear hw
              go_wp2_with (fail)
              refine (err_ok RD3.out).mono ?_
              rintro r W5 ⟨rfl, hw⟩
              rw [hw]
              clear hw
              go_wp2_with (fail)
              refine HEnd.out.mono ?_
              rintro r W6 ⟨rfl, k6⟩
              have RD6 := Lib.hid (RD3.out.no k6)
              have K6 := Lib.hid (K3.out.then k6)
              clear k6 HEnd RD3 K3
              go_wp2_with (fail)
              go_roundw
              case rel => exact ⟨j + 1, a, er, by go_num, by first | rfl | trivial, by first | rfl | trivial, by omega, by omega, RD6, K6⟩
              case measure => simp [intOf]; omega
            · obtain ⟨sT, hsT⟩ : ∃ s, strOfNums [] = s := ⟨_, rfl⟩
              have RS : Hid (Rw W1 (fun i => i ≠ q) .u8 (.slice none 0 0) []) := Lib.hid Rw.nil_
              have HRdr : Hid (∀ W, Ch No W1 W → Calls Try.prog 26 #[.pointer (some ⟨q, 0, none⟩), .int .i64 lm] W fun r W' => (∃ x, r = .returned x ∧ (convert 28 9 x).run Try.prog W' = .ok (.string sT) W') ∧ (convert 28 9 (.slice none 0 0)).run Try.prog W' = .ok (.string sT) W' ∧ RdAt W' q Aq k cq bd er a ∧ Ch No w W') := Lib.hid fun W kk => by
                have HH := rbytes_err (lim := lm) (RD1.out.no kk) he
                refine HH.mono ?_
                rintro r W' ⟨rfl, k'⟩
                exact ⟨⟨_, rfl, by rw [← hsT]; exact conv_rw (P := fun _ => True) Rw.nil_⟩, by rw [← hsT]; exact conv_rw (RS.out.ch ((kk.then k').no (E := fun i => i = q)) fun i _ h e => h e), (RD1.out.no kk).no k', (K1.out.then kk).then k'⟩
              clear hsT
              go_wp2_with (fail)
              refine (HRdr.out _ (Ch.refl _ _)).mono ?_
              rintro r W3 ⟨⟨x, rfl, hcx⟩, hct, rd3, k3⟩
              have RD3 := Lib.hid rd3
              have K3 := Lib.hid k3
              clear rd3 k3 HRdr
              have HEnd : Hid (Calls Try.prog 33 #[.pointer (some ⟨q, 0, none⟩)] W3 fun r W' => r = .returned (.int .i64 er) ∧ Ch No W3 W') := Lib.hid (by
                have := rend_ok RD3.out
                rwa [show endE er a k = er from by unfold endE; rw [if_neg HNE.out]] at this)
              go_wp2_with (fail)
              refine (at_ok RD3.out).mono ?_
              rintro r W4 ⟨rfl, hw⟩
              rw [hw]
              clear hw
              go_wp2_with (fail)
              refine (err_ok RD3.out).mono ?_
              rintro r W5 ⟨rfl, hw⟩
              rw [hw]
              clear hw
              go_wp2_with (fail)
              refine HEnd.out.mono ?_
              rintro r W6 ⟨rfl, k6⟩
              have RD6 := Lib.hid (RD3.out.no k6)
              have K6 := Lib.hid (K3.out.then k6)
              clear k6 HEnd RD3 K3
              go_wp2_with (fail)
              go_roundw
              case rel => exact ⟨j + 1, a, er, by go_num, by first | rfl | trivial, by first | rfl | trivial, by omega, by omega, RD6, K6⟩
              case measure => simp [intOf]; omega
            · obtain ⟨sT, hsT⟩ : ∃ s, strOfNums [] = s := ⟨_, rfl⟩
              have RS : Hid (Rw W1 (fun i => i ≠ q) .u8 (.slice none 0 0) []) := Lib.hid Rw.nil_
              have HRdr : Hid (∀ W, Ch No W1 W → Calls Try.prog 27 #[.pointer (some ⟨q, 0, none⟩), .int .i64 lm] W fun r W' => r = .returned (.string sT) ∧ (convert 28 9 (.slice none 0 0)).run Try.prog W' = .ok (.string sT) W' ∧ RdAt W' q Aq k cq bd er a ∧ Ch No w W') := Lib.hid fun W kk => by
                have HH := rstring_err (lim := lm) (RD1.out.no kk) he
                refine HH.mono ?_
                rintro r W' ⟨rfl, k'⟩
                exact ⟨by rw [← hsT]; rfl, by rw [← hsT]; exact conv_rw (RS.out.ch ((kk.then k').no (E := fun i => i = q)) fun i _ h e => h e), (RD1.out.no kk).no k', (K1.out.then kk).then k'⟩
              have hct0 : (convert 28 9 (.slice none 0 0)).run Try.prog W1.drew = .ok (.string sT) W1.drew := by rw [← hsT]; exact conv_rw RS.out.drew
              have hrd : Ch No W1 W1.drew := (Ch.refl _ _).drew
              clear hsT
              go_upto_region 54 with (fail)
              go_region_with (first | (go_at_call 27; refine (HRdr.out _ hrd).mono ?_; rintro r W3 ⟨rfl, hct, rd3, k3⟩))
              all_goals
                clear hct hct0
                have RD3 := Lib.hid rd3
                have K3 := Lib.hid k3
                clear rd3 k3 HRdr
                have HEnd : Hid (Calls Try.prog 33 #[.pointer (some ⟨q, 0, none⟩)] W3 fun r W' => r = .returned (.int .i64 er) ∧ Ch No W3 W') := Lib.hid (by
                  have := rend_ok RD3.out
                  rwa [show endE er a k = er from by unfold endE; rw [if_neg HNE.out]] at this)
                go_wp2_with (fail)
                refine (at_ok RD3.out).mono ?_
                rintro r W4 ⟨rfl, hw⟩
                rw [hw]
                clear hw
                go_wp2_with (fail)
                refine (err_ok RD3.out).mono ?_
                rintro r W5 ⟨rfl, hw⟩
                rw [hw]
                clear hw
                go_wp2_with (fail)
                refine HEnd.out.mono ?_
                rintro r W6 ⟨rfl, k6⟩
                have RD6 := Lib.hid (RD3.out.no k6)
                have K6 := Lib.hid (K3.out.then k6)
                clear k6 HEnd RD3 K3
                go_wp2_with (fail)
                go_roundw
                case rel => exact ⟨j + 1, a, er, by go_num, by first | rfl | trivial, by first | rfl | trivial, by omega, by omega, RD6, K6⟩
                case measure => simp [intOf]; omega
            · have RS : Hid (Rw W1 (fun i => i ≠ q) .i64 (.slice none 0 0) []) := Lib.hid Rw.nil_
              have HRdr : Hid (∀ W, Ch No W1 W → Calls Try.prog 29 #[.pointer (some ⟨q, 0, none⟩), .int .i64 lm] W fun r W' => (∃ x, r = .returned x ∧ Hid (Calls Try.prog 28 #[x, .slice none 0 0] W' fun e w' => e = .returned (.bool true) ∧ Ch No W' w')) ∧ RdAt W' q Aq k cq bd er a ∧ Ch No w W') := Lib.hid fun W kk => by
                have HH := rints_err (lim := lm) (RD1.out.no kk) he
                refine HH.mono ?_
                rintro r W' ⟨rfl, k'⟩
                exact ⟨⟨_, rfl, Lib.hid (equal_any (P := fun _ => True) Rw.nil_ (RS.out.ch ((kk.then k').no (E := fun i => i = q)) fun i _ h e => h e) (by simp))⟩, (RD1.out.no kk).no k', (K1.out.then kk).then k'⟩
              go_wp2_with (fail)
              refine (HRdr.out _ (Ch.refl _ _)).mono ?_
              rintro r W3' ⟨⟨x, rfl, heq⟩, rd3', k3'⟩
              go_wp2_with (fail)
              refine heq.out.mono ?_
              rintro r W3 ⟨rfl, k4⟩
              have rd3 := rd3'.no k4
              have k3 := k3'.then k4
              clear rd3' k3' k4 heq
              have RD3 := Lib.hid rd3
              have K3 := Lib.hid k3
              clear rd3 k3 HRdr
              have HEnd : Hid (Calls Try.prog 33 #[.pointer (some ⟨q, 0, none⟩)] W3 fun r W' => r = .returned (.int .i64 er) ∧ Ch No W3 W') := Lib.hid (by
                have := rend_ok RD3.out
                rwa [show endE er a k = er from by unfold endE; rw [if_neg HNE.out]] at this)
              go_wp2_with (fail)
              refine (at_ok RD3.out).mono ?_
              rintro r W4 ⟨rfl, hw⟩
              rw [hw]
              clear hw
              go_wp2_with (fail)
              refine (err_ok RD3.out).mono ?_
              rintro r W5 ⟨rfl, hw⟩
              rw [hw]
              clear hw
              go_wp2_with (fail)
              refine HEnd.out.mono ?_
              rintro r W6 ⟨rfl, k6⟩
              have RD6 := Lib.hid (RD3.out.no k6)
              have K6 := Lib.hid (K3.out.then k6)
              clear k6 HEnd RD3 K3
              go_wp2_with (fail)
              go_roundw
              case rel => exact ⟨j + 1, a, er, by go_num, by first | rfl | trivial, by first | rfl | trivial, by omega, by omega, RD6, K6⟩
              case measure => simp [intOf]; omega
            · obtain ⟨e4, he4⟩ : ∃ e, bits .and .i64 lm 3 = e := ⟨_, rfl⟩
              have HRdr : Hid (∀ W, Ch No W1 W → Calls Try.prog 30 #[.pointer (some ⟨q, 0, none⟩), .int .i64 e4] W fun r W' => r = .returned (.tuple #[]) ∧ RdAt W' q Aq k cq bd er a ∧ Ch No w W') := Lib.hid fun W kk => by
                refine (rfail_ok (e := e4) (RD1.out.no kk)).mono ?_
                rintro r W' ⟨rfl, h', k'⟩
                rw [if_neg he] at h'
                exact ⟨rfl, h', K1.out.trans (kk.after k') fun i _ e => by have := HQ.out; omega⟩
              go_wp2_with (fail)
              refine (HRdr.out _ (Ch.refl _ _)).mono ?_
              rintro r W3 ⟨rfl, rd3, k3⟩
              have RD3 := Lib.hid rd3
              have K3 := Lib.hid k3
              clear rd3 k3 HRdr
              have HEnd : Hid (Calls Try.prog 33 #[.pointer (some ⟨q, 0, none⟩)] W3 fun r W' => r = .returned (.int .i64 er) ∧ Ch No W3 W') := Lib.hid (by
                have := rend_ok RD3.out
                rwa [show endE er a k = er from by unfold endE; rw [if_neg HNE.out]] at this)
              go_wp2_with (fail)
              refine (at_ok RD3.out).mono ?_
              rintro r W4 ⟨rfl, hw⟩
              rw [hw]
              clear hw
              go_wp2_with (fail)
              refine (err_ok RD3.out).mono ?_
              rintro r W5 ⟨rfl, hw⟩
              rw [hw]
              clear hw
              go_wp2_with (fail)
              refine HEnd.out.mono ?_
              rintro r W6 ⟨rfl, k6⟩
              have RD6 := Lib.hid (RD3.out.no k6)
              have K6 := Lib.hid (K3.out.then k6)
              clear k6 HEnd RD3 K3
              go_wp2_with (fail)
              go_roundw
              case rel => exact ⟨j + 1, a, er, by go_num, by first | rfl | trivial, by first | rfl | trivial, by omega, by omega, RD6, K6⟩
              case measure => simp [intOf]; omega
        · obtain rfl : j = n := by omega
          have HC := hc
          clear hrd hc
          go_wp2_with (fail)
          refine (known_any wr).mono ?_
          rintro r w6 ⟨rfl, k6⟩
          go_wp2_with (fail)
          go_ret
          exact ⟨rfl, HC.out.then k6⟩
end Go.Proofs.Ytocdjieaphkbdaa
