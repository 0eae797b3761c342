/- Package wire: the input's methods: text, list. -/
import Derived.Test.YtocdjieaphkbdaaWj
namespace Go.Proofs.Ytocdjieaphkbdaa
open Go.RowKit

/-- A part of a row. -/
theorem Rw.cut {w : World} {P : Nat → Prop} {K : IntKind} {b o n c i j : Nat} {ds : List Int} (h : Rw w P K (.slice (some ⟨b, o, none⟩) n c) ds) (hn : ds.length = n) (hi : i ≤ j) (hj : j ≤ n) :
    Rw w P K (.slice (if c = i then some ⟨b, o, none⟩ else some ⟨b, o + i, none⟩) (j - i) (c - i)) ((ds.take j).drop i) := by
  obtain ⟨A', c', e, hle, hno, h1⟩ := h
  injection e with e1 e2 e3
  subst e1 e3
  have hl : ((ds.take j).drop i).length = j - i := by rw [List.length_drop, List.length_take]; omega
  refine ⟨_, c - i, by rw [hl], by rw [hl]; omega, fun e => (by split at e <;> cases e), fun h0 => ?_⟩
  rw [hl] at h0
  obtain ⟨b', o', e, hP, hb, hc⟩ := h1 (by omega)
  injection e with e
  injection e with e1 e2
  subst e1 e2
  refine ⟨b, o + i, by rw [if_neg (by omega)], hP, hb, fun k hk => ?_⟩
  rw [hl] at hk
  rw [Nat.add_assoc, hc (i + k) (by omega)]
  congr 2
  unfold at_
  rw [List.getElem?_drop, List.getElem?_take_of_lt (by omega)]
theorem Rw.cap {w : World} {P : Nat → Prop} {K : IntKind} {A : Option Addr} {n c : Nat} {ds : List Int} (h : Rw w P K (.slice A n c) ds) (hn : ds.length = n) : n ≤ c := by
  obtain ⟨A', c', e, hle, -⟩ := h
  injection e with e1 _ e3
  subst e3
  omega
section
variable {w : World} {g n c k : Nat} {A : Option Addr} {bd : List Int}
theorem Inp.rest (h : Inp w g A n c bd k) : (bd.drop k).length = n - k := by rw [List.length_drop, h.2.2.1]
set_option maxRecDepth 100000 in
set_option maxHeartbeats 2000000 in
theorem text_any {lim : Int} (h : Inp w g A n c bd k) :
    Calls Try.prog 59 #[.pointer (some ⟨g, 0, none⟩), .int .i64 lim] w (Reads w g A n c bd k (rText (bd.drop k) lim) fun v w' x => Rw w' (fun i => i ≠ g) .u8 x v) := by
  have HG := count_any (lim := lim) h
  cases hR : rCount (bd.drop k) lim with
  | bad e =>
    have hR' : rText (bd.drop k) lim = .bad e := by unfold rText; rw [hR]
    rw [hR] at HG
    rw [hR']
    have HG := Lib.hid HG
    clear h hR hR'
    go_enter Try.func59, Try.ntmps59
    go_wp2_with (fail)
    refine HG.out.mono ?_
    rintro e w1 ⟨k1, h1⟩
    simp only at h1
    subst h1
    simp only [pan]
    go_wp2_with (fail)
    exact ⟨rfl, k1, rfl⟩
  | good v m =>
    rw [hR] at HG
    have HG := Lib.hid HG
    have hk := h.2.2.2.1
    have hnb := h.2.2.2.2.1
    have hrl := h.rest
    obtain ⟨hU, -⟩ := rCount_le hR
    obtain ⟨u1, u2, u3⟩ := rUint_le hU
    by_cases g1 : (bd.drop k).length < m + v
    · have hR' : rText (bd.drop k) lim = .bad 4 := by unfold rText; rw [hR]; simp only; rw [if_pos g1]
      rw [hR']
      obtain ⟨km, hkm⟩ : ∃ km, k + m = km := ⟨_, rfl⟩
      have t1 : wrap64 ((n : Int) - (km : Int)) = (n : Int) - (km : Int) := by unfold wrap64; omega
      have t2 : (v : Int) > (n : Int) - (km : Int) := by omega
      have HKM := Lib.hid hkm
      clear hkm
      clear hR hR' h hk hrl u1 u2 hU hnb g1
      go_enter Try.func59, Try.ntmps59
      go_wp2_with (fail)
      refine HG.out.mono ?_
      rintro e w1 ⟨k1, ⟨x, rfl, rfl⟩, h1⟩
      rw [HKM.out] at h1
      have K1 := Lib.hid k1
      have c0 := h1.c0
      have c1 := h1.c1
      clear k1 h1
      go_wp2_with (fail)
      go_region
      all_goals
        go_wp2_with (fail)
        exact ⟨rfl, K1.out.drew, rfl⟩
    · have hR' : rText (bd.drop k) lim = .good (((bd.drop k).drop m).take v) (m + v) := by unfold rText; rw [hR]; simp only; rw [if_neg g1]
      rw [hR']
      obtain ⟨km, hkm⟩ : ∃ km, k + m = km := ⟨_, rfl⟩
      obtain ⟨kv, hkv⟩ : ∃ kv, km + v = kv := ⟨_, rfl⟩
      have t1 : wrap64 ((n : Int) - (km : Int)) = (n : Int) - (km : Int) := by unfold wrap64; omega
      have t2 : ¬ (v : Int) > (n : Int) - (km : Int) := by omega
      have t3 : wrap64 ((km : Int) + (v : Int)) = (kv : Int) := by unfold wrap64; omega
      have t4 : wrap64 ((kv : Int) - (v : Int)) = (km : Int) := by unfold wrap64; omega
      obtain ⟨b, o, rfl, -⟩ := h.2.1.at (by rw [h.2.2.1]; omega)
      have hcap := h.2.1.cap h.2.2.1
      have t5 : (km : Int) ≤ kv := by omega
      have t6 : (kv : Int) ≤ c := by omega
      have t5' : km ≤ kv := by omega
      have t6' : kv ≤ c := by omega
      have HL : Hid ((bd.take kv).drop km = ((bd.drop k).drop m).take v) := Lib.hid (by rw [List.drop_take, List.drop_drop, hkm]; congr 1; omega)
      have HLE : Hid (km ≤ kv ∧ kv ≤ n ∧ k + (m + v) = kv) := Lib.hid (by omega)
      have HN := Lib.hid h.2.2.1
      have HKM := Lib.hid hkm
      clear hkm hkv hR hR' h hk hrl u1 u2 hU hnb g1 hcap
      go_enter Try.func59, Try.ntmps59
      go_wp2_with (fail)
      refine HG.out.mono ?_
      rintro e w1 ⟨k1, ⟨x, rfl, rfl⟩, h1⟩
      rw [HKM.out] at h1
      have K1 := Lib.hid k1
      have c0 := h1.c0
      have c1 := h1.c1
      have f1 := h1.free 1
      have H2 := Lib.hid (h1.drew.set_ (m := kv) HLE.out.2.1)
      have d0 : (w1.setCell ⟨g, 1, none⟩ (.int .i64 (kv : Int))).cell? ⟨g, 0, none⟩ = some (.slice (some ⟨b, o, none⟩) n c) := (h1.set_ HLE.out.2.1).c0
      have d1 : (w1.setCell ⟨g, 1, none⟩ (.int .i64 (kv : Int))).cell? ⟨g, 1, none⟩ = some (.int .i64 (kv : Int)) := (h1.set_ HLE.out.2.1).c1
      clear k1 h1
      go_wp2_with (fail)
      go_region
      go_wp2_with (fail)
      go_region
      have HR : Hid (Rw (w1.setCell ⟨g, 1, none⟩ (.int .i64 (kv : Int))).drew.drew (fun i => i ≠ g) .u8 (.slice (if c = km then some ⟨b, o, none⟩ else some ⟨b, o + km, none⟩) (kv - km) (c - km)) (((bd.drop k).drop m).take v)) := Lib.hid (by
        rw [← HL.out]
        exact H2.out.2.1.cut HN.out HLE.out.1 HLE.out.2.1)
      generalize (if c = km then some (⟨b, o, none⟩ : Addr) else some ⟨b, o + km, none⟩) = Ao at *
      go_wp2_with (fail)
      go_ret
      refine ⟨((K1.out.trans (Ch.put _ _ _ _) fun _ _ h => h).drew).drew, ⟨_, rfl, HR.out⟩, ?_⟩
      rw [HLE.out.2.2]
      exact H2.out
theorem Inp.of {w' : World} {k' : Nat} (h : Inp w g A n c bd k) (hc : Ch (fun i => i = g) w w') (hh : w'.heap[g]? = some (.cells #[.slice A n c, .int .i64 k'] 79 (0, 0))) (hk : k' ≤ n) : Inp w' g A n c bd k' :=
  ⟨hh, h.2.1.ch hc fun _ _ h1 => h1, h.2.2.1, hk, h.2.2.2.2⟩
theorem lst_bad {v acc kk l e} (h : rInt (l.drop kk) = .bad e) : lst (v + 1) acc kk l = .bad e := by unfold lst; rw [h]
theorem lst_next {v acc kk l z d} (h : rInt (l.drop kk) = .good z d) : lst (v + 1) acc kk l = lst v (acc ++ [z]) (kk + d) l := by rw [lst, h]
set_option maxRecDepth 100000 in
set_option maxHeartbeats 4000000 in
theorem list_any {lim : Int} (h : Inp w g A n c bd k) :
    Calls Try.prog 64 #[.pointer (some ⟨g, 0, none⟩), .int .i64 lim] w (Reads w g A n c bd k (rList (bd.drop k) lim) fun v w' x => Ow 3 .i64 w' w.heap.size x v) := by
  have HG := count_any (lim := lim) h
  cases hR : rCount (bd.drop k) lim with
  | bad e =>
    have hR' : rList (bd.drop k) lim = .bad e := by unfold rList; rw [hR]
    rw [hR] at HG
    rw [hR']
    have HG := Lib.hid HG
    clear h hR hR'
    go_enter Try.func64, Try.ntmps64
    go_wp2_with (fail)
    refine HG.out.mono ?_
    rintro e w1 ⟨k1, h1⟩
    simp only at h1
    subst h1
    simp only [pan]
    go_wp2_with (fail)
    exact ⟨rfl, k1, rfl⟩
  | good v m =>
    rw [hR] at HG
    have HG := Lib.hid HG
    have HR' : Hid (rList (bd.drop k) lim = lst v [] m (bd.drop k)) := Lib.hid (by unfold rList; rw [hR])
    have HX := Lib.hid h
    obtain ⟨hU, -⟩ := rCount_le hR
    obtain ⟨u1, u2, u3⟩ := rUint_le hU
    have hr := h.rest
    have hn6 := h.2.2.2.2.1
    have HM0 : Hid (m ≤ n) := Lib.hid (by omega)
    clear h hR hU hr hn6 u1 u2
    go_enter Try.func64, Try.ntmps64
    go_wp2_with (fail)
    refine HG.out.mono ?_
    rintro e w1 ⟨k1, ⟨x, rfl, rfl⟩, h1⟩
    have K1 := Lib.hid k1
    have I1 := Lib.hid h1
    clear k1 h1 HG
    go_wp2_with (fail)
    go_loopw [5, 9] (fun u i wx => ∃ (j kk : Nat) (ls : List Int), i = .int .i64 j ∧ j ≤ v ∧ Hid (Inp wx g A n c bd (k + kk)) ∧ Hid (Ch (fun i => i = g) w wx) ∧ Hid (Ow 3 .i64 wx w.heap.size u ls) ∧ Hid (lst v [] m (bd.drop k) = lst (v - j) ls kk (bd.drop k)) ∧ Hid (ls.length = j ∧ j ≤ kk)) (fun _ i _ => v - (intOf i).toNat)
    case atStart => exact ⟨0, m, [], rfl, Nat.zero_le _, I1, K1, Lib.hid Ow.nil_, Lib.hid rfl, Lib.hid ⟨rfl, Nat.zero_le _⟩⟩
    case round =>
      obtain ⟨j, kk, ls, rfl, hj, hi, hc, ho, hl, hb⟩ := hrel
      clear I1 K1
      by_cases g1 : j < v
      · have gI : (j : Int) < v := by omega
        have hjn : j < 1000000 := by have := hb.out; have := hi.out.2.2.2.1; have := hi.out.2.2.2.2.1; omega
        have HS := signed_any hi.out
        have hdd : bd.drop (k + kk) = (bd.drop k).drop kk := by rw [List.drop_drop]
        obtain ⟨vj, hvj⟩ : ∃ vj, v - j = vj + 1 := ⟨v - j - 1, by omega⟩
        cases hR2 : rInt (bd.drop (k + kk)) with
        | bad e =>
          have HE : Hid (rList (bd.drop k) lim = .bad e) := Lib.hid (by rw [HR'.out, hl.out, hvj, lst_bad (hdd ▸ hR2)])
          rw [hR2] at HS
          have HS := Lib.hid HS
          have HC := hc
          clear hi hc ho hl hb hR2 hdd hvj
          go_wp2_with (fail)
          refine HS.out.mono ?_
          rintro e w2 ⟨k2, h2⟩
          simp only at h2
          subst h2
          have K2 := Lib.hid (HC.out.trans k2 fun _ _ h => h)
          clear k2
          simp only [pan]
          go_wp2_with (fail)
          refine ⟨rfl, K2.out, ?_⟩
          rw [HE.out]
          rfl
        | good z d =>
          have HE : Hid (lst v [] m (bd.drop k) = lst (v - (j + 1)) (ls ++ [z]) (kk + d) (bd.drop k)) := Lib.hid (by
            rw [hl.out, hvj, lst_next (hdd ▸ hR2)]
            congr 1
            omega)
          have HD : Hid (0 < d) := Lib.hid (rInt_le hR2).1
          rw [hR2] at HS
          have HS := Lib.hid HS
          have HC := hc
          have HO := ho
          have HB := hb
          have S0 : w.heap.size ≤ wr.heap.size := hc.out.size
          clear hi hc ho hl hb hR2 hdd hvj
          go_wp2_with (fail)
          refine HS.out.mono ?_
          rintro e w2 ⟨k2, ⟨x, rfl, rfl⟩, h2⟩
          have S2 : w.heap.size ≤ w2.heap.size := Nat.le_trans S0 k2.size
          have O2 : Hid (∀ z, Ow 3 .i64 (w2.alloc (.cells #[.int .i64 z] 3)) w.heap.size u5 ls) := Lib.hid fun z => (HO.out.ch k2 fun b hb e => by have := (HO.out.lt hb).1; have := HX.out.lt; omega).no (Ch.new w2 _)
          have K2 := Lib.hid (HC.out.trans k2 fun _ _ h => h)
          have I2 := Lib.hid h2
          clear k2 h2 HS HC HO S0
          go_wp2_with (at_builtin; refine app rfl _ _ _ rfl Try.underlying33 infoI64 (by decide) rfl rfl (O2.out _) (by simp; omega) (fun i => i = w2.heap.size) [z] (Rw.one rfl (by rw [World.cell?_alloc_at _ _ _ _ rfl]; rfl)) (by have := HB.out; simp only [List.length_singleton]; omega) ?_)
          intro x' w3 o3 k3 m3
          have K3 : Hid (Ch (fun i => i = g) w w3) := Lib.hid ((K2.out.then (Ch.new w2 _)).trans k3 fun i hi h => by have := ((O2.out z).lt h).1; omega)
          have I3 : Hid (Inp w3 g A n c bd (k + (kk + d))) := Lib.hid (HX.out.of K3.out (by
            rw [← Nat.add_assoc]
            refine (k3.block g (by have := I2.out.lt; simp; omega) fun h => by have := ((O2.out z).lt h).1; have := HX.out.lt; omega).trans ?_
            exact (Below.heap_alloc w2 _ g I2.out.lt).trans I2.out.1) (by rw [← Nat.add_assoc]; exact I2.out.2.2.2.1))
          have O3 := Lib.hid o3
          have B3 : Hid ((ls ++ [z]).length = j + 1 ∧ j + 1 ≤ kk + d) := Lib.hid (by have := HB.out; have := HD.out; rw [List.length_append, List.length_singleton]; omega)
          clear o3 k3 m3 K2 I2 O2 HB HD S2
          go_wp2_with (fail)
          go_roundw
          case rel => exact ⟨j + 1, kk + d, _, by go_num, by omega, I3, K3, O3, HE, B3⟩
          case measure => simp [intOf]; omega
      · obtain rfl : j = v := by omega
        have HE : Hid (rList (bd.drop k) lim = .good ls kk) := Lib.hid (by rw [HR'.out, hl.out, Nat.sub_self]; rfl)
        have HO := ho
        have HI := hi
        have HC := hc
        clear hi hc ho hl hb
        go_wp2_with (fail)
        go_ret
        refine ⟨HC.out, ?_⟩
        rw [HE.out]
        exact ⟨⟨_, rfl, HO.out⟩, HI.out⟩
end
end Go.Proofs.Ytocdjieaphkbdaa
