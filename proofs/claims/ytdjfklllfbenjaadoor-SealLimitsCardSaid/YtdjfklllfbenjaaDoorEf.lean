/- Package seal: Derive, Stream, Seal. -/
import Derived.Test.YtdjfklllfbenjaaDoorEe
namespace Go.Proofs.YtdjfklllfbenjaaDoor
open Go.RowKit

theorem str_ne {s : ByteArray} (h : 1 ≤ s.size) : s.toList.isEmpty = false := by
  rw [ByteArray.toList_eq]
  obtain ⟨⟨l⟩⟩ := s
  cases l with
  | nil => exact absurd h (by decide)
  | cons a l => rfl
theorem str_nil {s : ByteArray} (h : s.size = 0) : s = ⟨#[]⟩ := by
  obtain ⟨⟨l⟩⟩ := s
  cases l with
  | nil => rfl
  | cons a l => exact absurd h (by show ¬ (l.length + 1 = 0); omega)
set_option maxRecDepth 100000 in
set_option maxHeartbeats 2000000 in
theorem derive_ok (A : Option Addr) (c : Nat) (kd : List Int) (s : ByteArray) (w : World) (hkl : kd.length = 32) (hk : PartAt w w.heap.size (.slice A 32 c) kd) (h1 : 1 ≤ s.size) (h64 : s.size ≤ 64) (htab : Tabs w) :
    Calls Tryd.prog 24 #[.slice A 32 c, .string s] w fun e w' => (∃ g, e = .returned (.tuple #[.slice (some ⟨g, 0, none⟩) 32 32, .int .i64 0]) ∧ PartAt w' w'.heap.size (.slice (some ⟨g, 0, none⟩) 32 32) (hashB kd (numsOf s))) ∧ Below w.heap.size w w' := by
  have HC := Lib.hid (derived_any A 32 c kd s w hkl (by omega) (by omega) hk (by omega) htab)
  have g1 := str_ne h1
  have g2 : ¬ (64 : Int) < s.size := by omega
  clear hk hkl htab
  go_enter Tryd.func24, Tryd.ntmps24
  go_wp2_with (fail)
  refine HC.out.mono ?_
  rintro e w1 ⟨⟨g, rfl, h⟩, b⟩
  have H := Lib.hid h
  have B := Lib.hid b
  clear h b HC
  go_wp2_with (fail)
  exact bodyPost_ret (v := .tuple #[.slice (some ⟨g, 0, none⟩) 32 32, .int .i64 0]) (by simp [results, Tryd.results24, go_sem]) rfl ⟨⟨g, rfl, H.out⟩, B.out⟩
set_option maxRecDepth 100000 in
set_option maxHeartbeats 2000000 in
theorem derive_no (A : Option Addr) (n c : Nat) (s : ByteArray) (w : World) (h : ¬ (n = 32 ∧ 1 ≤ s.size ∧ s.size ≤ 64)) :
    Calls Tryd.prog 24 #[.slice A n c, .string s] w fun e w' => e = .returned (.tuple #[.slice none 0 0, .int .i64 2]) ∧ w' = w := by
  by_cases h1 : n = 32
  · subst h1
    rcases Nat.eq_zero_or_pos s.size with h2 | h2
    · obtain rfl := str_nil h2
      clear h h2
      go_enter Tryd.func24, Tryd.ntmps24
      go_wp2_with (fail)
      exact bodyPost_ret (v := .tuple #[.slice none 0 0, .int .i64 2]) (by simp [results, Tryd.results24, go_sem]) rfl ⟨rfl, rfl⟩
    · have g1 := str_ne h2
      have g2 : (64 : Int) < s.size := by omega
      clear h h2
      go_enter Tryd.func24, Tryd.ntmps24
      go_wp2_with (fail)
      exact bodyPost_ret (v := .tuple #[.slice none 0 0, .int .i64 2]) (by simp [results, Tryd.results24, go_sem]) rfl ⟨rfl, rfl⟩
  · clear h
    have g1 : ¬ (n : Int) = 32 := by omega
    go_enter Tryd.func24, Tryd.ntmps24
    go_wp2_with (fail)
    exact bodyPost_ret (v := .tuple #[.slice none 0 0, .int .i64 2]) (by simp [results, Tryd.results24, go_sem]) rfl ⟨rfl, rfl⟩
set_option maxRecDepth 100000 in
set_option maxHeartbeats 2000000 in
theorem Stream_ok (A B : Option Addr) (c cb n : Nat) (kd nd : List Int) (w : World) (hkl : kd.length = 32) (hk : PartAt w w.heap.size (.slice A 32 c) kd) (hnl : nd.length = 16) (hb : PartAt w w.heap.size (.slice B 16 cb) nd) (hn : n ≤ 65504) (htab : Tabs w) :
    Calls Tryd.prog 27 #[.slice A 32 c, .slice B 16 cb, .int .i64 n] w fun e w' => (∃ v, e = .returned (.tuple #[v, .int .i64 0]) ∧ Own w' w.heap.size v (streamL kd nd n)) ∧ Below w.heap.size w w' := by
  have HC := Lib.hid (stream_any A B c cb n kd nd w hkl hk hnl hb hn htab)
  have g1 : ¬ (n : Int) < 0 := by omega
  have g2 : ¬ (65504 : Int) < n := by omega
  clear hk hkl hnl hb htab
  go_enter Tryd.func27, Tryd.ntmps27
  go_wp2_with (fail)
  refine HC.out.mono ?_
  rintro e w1 ⟨⟨v, rfl, h⟩, b⟩
  have H := Lib.hid h
  have B := Lib.hid b
  clear h b HC
  go_wp2_with (fail)
  exact bodyPost_ret (v := .tuple #[v, .int .i64 0]) (by simp [results, Tryd.results27, go_sem]) rfl ⟨⟨_, rfl, H.out⟩, B.out⟩
set_option maxRecDepth 100000 in
set_option maxHeartbeats 2000000 in
theorem Stream_no (A B : Option Addr) (n c m cb : Nat) (z : Int) (w : World) (h : ¬ (n = 32 ∧ m = 16 ∧ 0 ≤ z ∧ z ≤ 65504)) :
    Calls Tryd.prog 27 #[.slice A n c, .slice B m cb, .int .i64 z] w fun e w' => e = .returned (.tuple #[.slice none 0 0, .int .i64 2]) ∧ w' = w := by
  by_cases h1 : n = 32
  · subst h1
    by_cases h2 : m = 16
    · subst h2
      by_cases h3 : z < 0
      · clear h
        go_enter Tryd.func27, Tryd.ntmps27
        go_wp2_with (fail)
        exact bodyPost_ret (v := .tuple #[.slice none 0 0, .int .i64 2]) (by simp [results, Tryd.results27, go_sem]) rfl ⟨rfl, rfl⟩
      · have h4 : (65504 : Int) < z := by omega
        clear h
        go_enter Tryd.func27, Tryd.ntmps27
        go_wp2_with (fail)
        exact bodyPost_ret (v := .tuple #[.slice none 0 0, .int .i64 2]) (by simp [results, Tryd.results27, go_sem]) rfl ⟨rfl, rfl⟩
    · clear h
      have g1 : ¬ (m : Int) = 16 := by omega
      go_enter Tryd.func27, Tryd.ntmps27
      go_wp2_with (fail)
      exact bodyPost_ret (v := .tuple #[.slice none 0 0, .int .i64 2]) (by simp [results, Tryd.results27, go_sem]) rfl ⟨rfl, rfl⟩
  · clear h
    have g1 : ¬ (n : Int) = 32 := by omega
    go_enter Tryd.func27, Tryd.ntmps27
    go_wp2_with (fail)
    exact bodyPost_ret (v := .tuple #[.slice none 0 0, .int .i64 2]) (by simp [results, Tryd.results27, go_sem]) rfl ⟨rfl, rfl⟩
set_option maxRecDepth 100000 in
set_option maxHeartbeats 2000000 in
theorem Seal_no (A B D : Option Addr) (n c m cb l cd : Nat) (w : World) (h : ¬ (n = 32 ∧ m = 16 ∧ l ≤ 65504)) :
    Calls Tryd.prog 29 #[.slice A n c, .slice B m cb, .slice D l cd] w fun e w' => e = .returned (.tuple #[.slice none 0 0, .int .i64 2]) ∧ w' = w := by
  by_cases h1 : n = 32
  · subst h1
    by_cases h2 : m = 16
    · subst h2
      have h4 : (65504 : Int) < l := by omega
      clear h
      go_enter Tryd.func29, Tryd.ntmps29
      go_wp2_with (fail)
      exact bodyPost_ret (v := .tuple #[.slice none 0 0, .int .i64 2]) (by simp [results, Tryd.results29, go_sem]) rfl ⟨rfl, rfl⟩
    · clear h
      have g1 : ¬ (m : Int) = 16 := by omega
      go_enter Tryd.func29, Tryd.ntmps29
      go_wp2_with (fail)
      exact bodyPost_ret (v := .tuple #[.slice none 0 0, .int .i64 2]) (by simp [results, Tryd.results29, go_sem]) rfl ⟨rfl, rfl⟩
  · clear h
    have g1 : ¬ (n : Int) = 32 := by omega
    go_enter Tryd.func29, Tryd.ntmps29
    go_wp2_with (fail)
    exact bodyPost_ret (v := .tuple #[.slice none 0 0, .int .i64 2]) (by simp [results, Tryd.results29, go_sem]) rfl ⟨rfl, rfl⟩
set_option maxRecDepth 100000 in
set_option maxHeartbeats 4000000 in
theorem Seal_ok (A B D : Option Addr) (c cb m cd : Nat) (kd nd pd : List Int) (w : World) (hkl : kd.length = 32) (hk : PartAt w w.heap.size (.slice A 32 c) kd) (hnl : nd.length = 16) (hb : PartAt w w.heap.size (.slice B 16 cb) nd) (hdl : pd.length = m) (hd : PartAt w w.heap.size (.slice D m cd) pd) (hm : m ≤ 65504) (htab : Tabs w) :
    Calls Tryd.prog 29 #[.slice A 32 c, .slice B 16 cb, .slice D m cd] w fun e w' => (∃ v, e = .returned (.tuple #[v, .int .i64 0]) ∧ Own w' w.heap.size v (sealL kd nd pd)) ∧ Below w.heap.size w w' := by
  have g1 : ¬ (65504 : Int) < m := by omega
  have HK := Lib.hid hk
  have HB := Lib.hid hb
  have HD := Lib.hid hd
  have HKL := Lib.hid hkl
  have HNL := Lib.hid hnl
  have HL := Lib.hid hdl
  have HT := Lib.hid htab
  have HP : Hid (2 ≤ w.heap.size) := Lib.hid htab.lt
  clear hk hb hd hkl hnl hdl htab
  go_enter Tryd.func29, Tryd.ntmps29
  go_upto_region 4 with (refine makeB0 rfl _ _ _ rfl Tryd.underlying22 (m + 32) _ rfl rfl (by push_cast; rfl) (by omega) ?_; intro w1 o1 b1 s1)
  have O1 := Lib.hid o1
  have B1 := Lib.hid b1
  have S1 := Lib.hid (Nat.le_of_lt s1)
  have HB1 := Lib.hid (HB.out.later b1 b1.size)
  clear o1 b1 s1
  go_wp2_with (at_builtin; refine appBs rfl _ _ _ rfl Tryd.underlying22 rfl O1.out B1.out S1.out B 16 cb w1.heap.size nd rfl (HB1.out.some_ (by rw [HNL.out]; omega)) HB1.out HNL.out (by simp) ?_; intro v2 w2 o2 b2 k2)
  rw [List.nil_append] at o2
  have O2 := Lib.hid o2
  have B2 := Lib.hid b2
  have S2 := Lib.hid b2.size
  have HC2 := Lib.hid (masked_any A B D c cb m cd kd nd pd w2 HKL.out (HK.out.later b2 b2.size) HNL.out (HB.out.later b2 b2.size) HL.out (HD.out.later b2 b2.size) hm (HT.out.below b2 HP.out))
  obtain ⟨A2, c2, rfl, -⟩ := o2.shape
  rw [HNL.out] at O2 ⊢
  clear o2 b2 k2 O1 B1 S1 HB1
  go_wp2_with (fail)
  refine HC2.out.mono ?_
  rintro e w3 ⟨⟨v3, rfl, o3⟩, b3⟩
  have O3 := Lib.hid (O2.out.below b3)
  have B3 := Lib.hid (B2.out.trans (b3.mono S2.out))
  have S3 := Lib.hid (Nat.le_trans S2.out b3.size)
  obtain ⟨A3, c3, rfl, hA3⟩ := o3.shape
  have P3 := Lib.hid o3.part
  have HA3 := Lib.hid hA3
  clear o3 b3 O2 B2 S2 HC2 hA3
  have hml : (maskL kd nd pd).length = m := by rw [maskL_len, HL.out]
  rw [hml] at P3 ⊢
  go_wp2_with (at_builtin; refine appBs rfl _ _ _ rfl Tryd.underlying22 rfl O3.out B3.out S3.out A3 m c3 w3.heap.size (maskL kd nd pd) rfl HA3.out P3.out (by rw [maskL_len, HL.out]) (by rw [HNL.out]; omega) ?_; intro v4 w4 o4 b4 k4)
  have O4 := Lib.hid o4
  have B4 := Lib.hid b4
  have S4 := Lib.hid b4.size
  obtain ⟨A4, c4, rfl, hA4⟩ := o4.shape
  have hl4 : (nd ++ maskL kd nd pd).length = m + 16 := by rw [List.length_append, maskL_len, HL.out, HNL.out]; omega
  rw [hl4] at O4 ⊢
  have P4 := o4.part
  rw [hl4] at P4
  have HC4 := Lib.hid (tag_any A A4 c (m + 16) c4 kd (nd ++ maskL kd nd pd) w4 HKL.out (HK.out.later b4 b4.size) P4 (by omega) (HT.out.below b4 HP.out))
  clear o4 b4 k4 O3 B3 S3 P3 HA3 P4 hA4 hml
  obtain ⟨td, htd⟩ : ∃ td, nd ++ maskL kd nd pd = td := ⟨_, rfl⟩
  have HS : Hid (td ++ tagL kd td = sealL kd nd pd) := Lib.hid (by rw [← htd]; rfl)
  rw [htd] at O4 HC4 hl4
  have HL4 := Lib.hid hl4
  clear htd hl4
  go_wp2_with (fail)
  refine HC4.out.mono ?_
  rintro e w5 ⟨⟨g5, rfl, p5⟩, b5⟩
  have O5 := Lib.hid (O4.out.below b5)
  have B5 := Lib.hid (B4.out.trans (b5.mono S4.out))
  have S5 := Lib.hid (Nat.le_trans S4.out b5.size)
  have P5 := Lib.hid p5
  clear p5 b5 O4 B4 S4 HC4
  go_wp2_with (at_builtin; refine appBs rfl _ _ _ rfl Tryd.underlying22 rfl O5.out B5.out S5.out (some ⟨g5, 0, none⟩) 16 32 w5.heap.size (tagL kd td) rfl (fun e => by cases e) P5.out (tagL_len _ _) (by rw [HL4.out]; omega) ?_; intro v6 w6 o6 b6 k6)
  rw [HS.out] at o6
  have O6 := Lib.hid o6
  have B6 := Lib.hid b6
  clear o6 b6 k6 O5 B5 S5 P5
  go_wp2_with (fail)
  exact bodyPost_ret (v := .tuple #[v6, .int .i64 0]) (by simp [results, Tryd.results29, go_sem]) rfl ⟨⟨_, rfl, O6.out⟩, B6.out⟩
end Go.Proofs.YtdjfklllfbenjaaDoor
