/- Package wire: a reader's methods: those that read a value. -/
import Derived.Test.YtocdjieaphkbdaaWn
import Derived.Laws.BytesArg
import Derived.Shelf.Abstract
namespace Go.Proofs.Ytocdjieaphkbdaa
open Go.RowKit Go.Shelf

theorem nexts_ret {α : Type} {w w' : World} {p n c k : Nat} {A : Option Addr} {bd : List Int} {Z : Value} {R : Rd α} {F : α → World → Value → Prop} {r : Ending} (h : Nexts w p A n c bd k Z R F r w') : ∃ x, r = .returned x ∧ Nexts w p A n c bd k Z R F (.returned x) w' := by
  obtain ⟨h1, h2⟩ := h
  cases R with
  | bad e => obtain ⟨rfl, h3⟩ := h2; exact ⟨_, rfl, h1, rfl, h3⟩
  | good v m => obtain ⟨⟨x, rfl, hx⟩, h3⟩ := h2; exact ⟨x, rfl, h1, ⟨x, rfl, hx⟩, h3⟩
theorem nexts_after {α : Type} {w w1 w' : World} {p n c k : Nat} {A : Option Addr} {bd : List Int} {Z : Value} {R : Rd α} {F : α → World → Value → Prop} {r : Ending} (hc : Ch No w w1) (h : Nexts w1 p A n c bd k Z R F r w') : Nexts w p A n c bd k Z R F r w' := ⟨hc.after h.1, h.2⟩
theorem reads_mono {α : Type} {w w' : World} {g n c k : Nat} {A : Option Addr} {bd : List Int} {R : Rd α} {F G : α → World → Value → Prop} {r : Ending} (h : Reads w g A n c bd k R F r w') (hF : ∀ v x, F v w' x → G v w' x) : Reads w g A n c bd k R G r w' := by
  obtain ⟨h1, h2⟩ := h
  cases R with
  | bad e => exact ⟨h1, h2⟩
  | good v m => obtain ⟨⟨x, rfl, hx⟩, h3⟩ := h2; exact ⟨h1, ⟨x, rfl, hF _ _ hx⟩, h3⟩
/-- string(b) of bytes that lie anywhere. -/
theorem conv_rw {w : World} {P : Nat → Prop} {v : Value} {ds : List Int} (h : Rw w P .u8 v ds) : (convert 28 9 v).run Try.prog w = .ok (.string (strOfNums ds)) w := by
  obtain ⟨A, c, rfl, hle, -, hA⟩ := h
  rcases Nat.eq_zero_or_pos ds.length with h0 | h0
  · have e : ds = [] := List.eq_nil_of_length_eq_zero h0
    subst e
    rw [run_convert_bytes_string w 28 9 5 A _ c Try.underlying28 Try.underlying5 Try.underlying9]
    cases A <;> simp [Conv.bytesToString, loadCells]
    all_goals rfl
  · obtain ⟨b, o, rfl, -, -, hc⟩ := hA h0
    refine run_convert_bytes_arg w 28 5 Try.underlying28 Try.underlying5 b o ds.length c ds rfl (fun i hi => ?_) 9 Try.underlying9
    rw [hc i hi]
    simp [at_, hi]
theorem nextI_all {α : Type} {w : World} {p n c k f : Nat} {A : Option Addr} {bd : List Int} {cap : Array Value} {R : Rd α} {F : α → World → Value → Prop} (h : RdAt w p A n c bd 0 k)
    (hen : ∀ args w, (callFunc f args).run Try.prog w = .ok (.enter f args) w)
    (hval : ∀ W g, Ch No w W → w.heap.size ≤ g → Inp W g A n c bd k → Calls Try.prog f (#[.pointer (some ⟨g, 0, none⟩)] ++ cap) W (Reads W g A n c bd k R F))
    (hF : ∀ v W W' x, F v W x → Ch (fun i => i < w.heap.size) W W' → F v W' x) :
    Calls Try.prog 50 #[.pointer (some ⟨p, 0, none⟩), .func (.func f) #[] cap] w (Nexts w p A n c bd k (.int .i64 0) R F) := by
  cases R with
  | bad e => exact nextI_bad h hen hval
  | good v m => exact nextI_good h hen hval (hF v)
theorem nextB_all {α : Type} {w : World} {p n c k f : Nat} {A : Option Addr} {bd : List Int} {cap : Array Value} {R : Rd α} {F : α → World → Value → Prop} (h : RdAt w p A n c bd 0 k)
    (hen : ∀ args w, (callFunc f args).run Try.prog w = .ok (.enter f args) w)
    (hval : ∀ W g, Ch No w W → w.heap.size ≤ g → Inp W g A n c bd k → Calls Try.prog f (#[.pointer (some ⟨g, 0, none⟩)] ++ cap) W (Reads W g A n c bd k R F))
    (hF : ∀ v W W' x, F v W x → Ch (fun i => i < w.heap.size) W W' → F v W' x) :
    Calls Try.prog 53 #[.pointer (some ⟨p, 0, none⟩), .func (.func f) #[] cap] w (Nexts w p A n c bd k (.bool false) R F) := by
  cases R with
  | bad e => exact nextB_bad h hen hval
  | good v m => exact nextB_good h hen hval (hF v)
theorem nextY_all {α : Type} {w : World} {p n c k f : Nat} {A : Option Addr} {bd : List Int} {cap : Array Value} {R : Rd α} {F : α → World → Value → Prop} (h : RdAt w p A n c bd 0 k)
    (hen : ∀ args w, (callFunc f args).run Try.prog w = .ok (.enter f args) w)
    (hval : ∀ W g, Ch No w W → w.heap.size ≤ g → Inp W g A n c bd k → Calls Try.prog f (#[.pointer (some ⟨g, 0, none⟩)] ++ cap) W (Reads W g A n c bd k R F))
    (hF : ∀ v W W' x, F v W x → Ch (fun i => i < w.heap.size) W W' → F v W' x) :
    Calls Try.prog 57 #[.pointer (some ⟨p, 0, none⟩), .func (.func f) #[] cap] w (Nexts w p A n c bd k (.slice none 0 0) R F) := by
  cases R with
  | bad e => exact nextY_bad h hen hval
  | good v m => exact nextY_good h hen hval (hF v)
theorem nextS_all {α : Type} {w : World} {p n c k f : Nat} {A : Option Addr} {bd : List Int} {cap : Array Value} {R : Rd α} {F : α → World → Value → Prop} (h : RdAt w p A n c bd 0 k)
    (hen : ∀ args w, (callFunc f args).run Try.prog w = .ok (.enter f args) w)
    (hval : ∀ W g, Ch No w W → w.heap.size ≤ g → Inp W g A n c bd k → Calls Try.prog f (#[.pointer (some ⟨g, 0, none⟩)] ++ cap) W (Reads W g A n c bd k R F))
    (hF : ∀ v W W' x, F v W x → Ch (fun i => i < w.heap.size) W W' → F v W' x) :
    Calls Try.prog 60 #[.pointer (some ⟨p, 0, none⟩), .func (.func f) #[] cap] w (Nexts w p A n c bd k (.string ⟨#[]⟩) R F) := by
  cases R with
  | bad e => exact nextS_bad h hen hval
  | good v m => exact nextS_good h hen hval (hF v)
theorem nextL_all {α : Type} {w : World} {p n c k f : Nat} {A : Option Addr} {bd : List Int} {cap : Array Value} {R : Rd α} {F : α → World → Value → Prop} (h : RdAt w p A n c bd 0 k)
    (hen : ∀ args w, (callFunc f args).run Try.prog w = .ok (.enter f args) w)
    (hval : ∀ W g, Ch No w W → w.heap.size ≤ g → Inp W g A n c bd k → Calls Try.prog f (#[.pointer (some ⟨g, 0, none⟩)] ++ cap) W (Reads W g A n c bd k R F))
    (hF : ∀ v W W' x, F v W x → Ch (fun i => i < w.heap.size) W W' → F v W' x) :
    Calls Try.prog 62 #[.pointer (some ⟨p, 0, none⟩), .func (.func f) #[] cap] w (Nexts w p A n c bd k (.slice none 0 0) R F) := by
  cases R with
  | bad e => exact nextL_bad h hen hval
  | good v m => exact nextL_good h hen hval (hF v)
set_option maxRecDepth 100000 in
set_option maxHeartbeats 2000000 in
theorem ruint_ok {w : World} {p n c k : Nat} {A : Option Addr} {bd : List Int} (h : RdAt w p A n c bd 0 k) :
    Calls Try.prog 22 #[.pointer (some ⟨p, 0, none⟩)] w (Nexts w p A n c bd k (.int .i64 0) (rUint (bd.drop k)) fun v _ x => x = .int .i64 v) := by
  have HN := Lib.hid (nextI_all (f := 51) (cap := #[]) h (enters_of Try.func51 (by kernel_rfl) rfl) (fun W g _ _ hi => unsigned_any hi) (fun v W W' x hx _ => hx))
  clear h
  go_enter Try.func22, Try.ntmps22
  go_wp2_with (fail)
  refine HN.out.mono ?_
  rintro r w1 h
  obtain ⟨x, rfl, h⟩ := nexts_ret h
  have H := Lib.hid h
  clear h
  go_wp2_with (fail)
  go_ret
  exact H.out
set_option maxRecDepth 100000 in
set_option maxHeartbeats 2000000 in
theorem ruint_err {w : World} {p n c k : Nat} {A : Option Addr} {bd : List Int} {er : Int} (h : RdAt w p A n c bd er k) (he : ¬ er = 0) :
    Calls Try.prog 22 #[.pointer (some ⟨p, 0, none⟩)] w fun r w' => r = .returned (.int .i64 0) ∧ Ch No w w' := by
  have HN := Lib.hid (nextI_err (fv := .func (.func 51) #[] #[]) h he)
  clear h
  go_enter Try.func22, Try.ntmps22
  go_wp2_with (fail)
  refine HN.out.mono ?_
  rintro r w1 ⟨rfl, h⟩
  have H := Lib.hid h
  clear h
  go_wp2_with (fail)
  go_ret
  exact ⟨rfl, H.out⟩
set_option maxRecDepth 100000 in
set_option maxHeartbeats 2000000 in
theorem ruint_no {w : World} {r : Value} (h : NoRd w r) :
    Calls Try.prog 22 #[r] w fun e w' => e = .returned (.int .i64 0) ∧ Ch No w w' := by
  have HN := Lib.hid (nextI_no (fv := .func (.func 51) #[] #[]) h)
  clear h
  go_enter Try.func22, Try.ntmps22
  go_wp2_with (fail)
  refine HN.out.mono ?_
  rintro r w1 ⟨rfl, h⟩
  have H := Lib.hid h
  clear h
  go_wp2_with (fail)
  go_ret
  exact ⟨rfl, H.out⟩
set_option maxRecDepth 100000 in
set_option maxHeartbeats 2000000 in
theorem rint_ok {w : World} {p n c k : Nat} {A : Option Addr} {bd : List Int} (h : RdAt w p A n c bd 0 k) :
    Calls Try.prog 23 #[.pointer (some ⟨p, 0, none⟩)] w (Nexts w p A n c bd k (.int .i64 0) (rInt (bd.drop k)) fun v _ x => x = .int .i64 v) := by
  have HN := Lib.hid (nextI_all (f := 52) (cap := #[]) h (enters_of Try.func52 (by kernel_rfl) rfl) (fun W g _ _ hi => signed_any hi) (fun v W W' x hx _ => hx))
  clear h
  go_enter Try.func23, Try.ntmps23
  go_wp2_with (fail)
  refine HN.out.mono ?_
  rintro r w1 h
  obtain ⟨x, rfl, h⟩ := nexts_ret h
  have H := Lib.hid h
  clear h
  go_wp2_with (fail)
  go_ret
  exact H.out
set_option maxRecDepth 100000 in
set_option maxHeartbeats 2000000 in
theorem rint_err {w : World} {p n c k : Nat} {A : Option Addr} {bd : List Int} {er : Int} (h : RdAt w p A n c bd er k) (he : ¬ er = 0) :
    Calls Try.prog 23 #[.pointer (some ⟨p, 0, none⟩)] w fun r w' => r = .returned (.int .i64 0) ∧ Ch No w w' := by
  have HN := Lib.hid (nextI_err (fv := .func (.func 52) #[] #[]) h he)
  clear h
  go_enter Try.func23, Try.ntmps23
  go_wp2_with (fail)
  refine HN.out.mono ?_
  rintro r w1 ⟨rfl, h⟩
  have H := Lib.hid h
  clear h
  go_wp2_with (fail)
  go_ret
  exact ⟨rfl, H.out⟩
set_option maxRecDepth 100000 in
set_option maxHeartbeats 2000000 in
theorem rint_no {w : World} {r : Value} (h : NoRd w r) :
    Calls Try.prog 23 #[r] w fun e w' => e = .returned (.int .i64 0) ∧ Ch No w w' := by
  have HN := Lib.hid (nextI_no (fv := .func (.func 52) #[] #[]) h)
  clear h
  go_enter Try.func23, Try.ntmps23
  go_wp2_with (fail)
  refine HN.out.mono ?_
  rintro r w1 ⟨rfl, h⟩
  have H := Lib.hid h
  clear h
  go_wp2_with (fail)
  go_ret
  exact ⟨rfl, H.out⟩
set_option maxRecDepth 100000 in
set_option maxHeartbeats 2000000 in
theorem rbool_ok {w : World} {p n c k : Nat} {A : Option Addr} {bd : List Int} (h : RdAt w p A n c bd 0 k) :
    Calls Try.prog 24 #[.pointer (some ⟨p, 0, none⟩)] w (Nexts w p A n c bd k (.bool false) (rBool (bd.drop k)) fun v _ x => x = .bool v) := by
  have HN := Lib.hid (nextB_all (f := 54) (cap := #[]) h (enters_of Try.func54 (by kernel_rfl) rfl) (fun W g _ _ hi => truth_any hi) (fun v W W' x hx _ => hx))
  clear h
  go_enter Try.func24, Try.ntmps24
  go_wp2_with (fail)
  refine HN.out.mono ?_
  rintro r w1 h
  obtain ⟨x, rfl, h⟩ := nexts_ret h
  have H := Lib.hid h
  clear h
  go_wp2_with (fail)
  go_ret
  exact H.out
set_option maxRecDepth 100000 in
set_option maxHeartbeats 2000000 in
theorem rbool_err {w : World} {p n c k : Nat} {A : Option Addr} {bd : List Int} {er : Int} (h : RdAt w p A n c bd er k) (he : ¬ er = 0) :
    Calls Try.prog 24 #[.pointer (some ⟨p, 0, none⟩)] w fun r w' => r = .returned (.bool false) ∧ Ch No w w' := by
  have HN := Lib.hid (nextB_err (fv := .func (.func 54) #[] #[]) h he)
  clear h
  go_enter Try.func24, Try.ntmps24
  go_wp2_with (fail)
  refine HN.out.mono ?_
  rintro r w1 ⟨rfl, h⟩
  have H := Lib.hid h
  clear h
  go_wp2_with (fail)
  go_ret
  exact ⟨rfl, H.out⟩
set_option maxRecDepth 100000 in
set_option maxHeartbeats 2000000 in
theorem rbool_no {w : World} {r : Value} (h : NoRd w r) :
    Calls Try.prog 24 #[r] w fun e w' => e = .returned (.bool false) ∧ Ch No w w' := by
  have HN := Lib.hid (nextB_no (fv := .func (.func 54) #[] #[]) h)
  clear h
  go_enter Try.func24, Try.ntmps24
  go_wp2_with (fail)
  refine HN.out.mono ?_
  rintro r w1 ⟨rfl, h⟩
  have H := Lib.hid h
  clear h
  go_wp2_with (fail)
  go_ret
  exact ⟨rfl, H.out⟩
set_option maxRecDepth 100000 in
set_option maxHeartbeats 2000000 in
theorem count_clo {W : World} {g n c k L : Nat} {lim : Int} {A : Option Addr} {bd : List Int} (h : Inp W g A n c bd k) (hL : W.cell? ⟨L, 0, none⟩ = some (.int .i64 lim)) :
    Calls Try.prog 55 #[.pointer (some ⟨g, 0, none⟩), .pointer (some ⟨L, 0, none⟩)] W (Reads W g A n c bd k (rCount (bd.drop k) lim) fun v _ x => x = .int .i64 v) := by
  have HC := count_any (lim := lim) h
  cases hR : rCount (bd.drop k) lim with
  | bad e =>
    rw [hR] at HC
    have HC := Lib.hid HC
    clear h hR
    go_enter Try.func55, Try.ntmps55
    go_wp2_with (fail)
    refine HC.out.mono ?_
    rintro r w1 ⟨k1, h1⟩
    simp only at h1
    subst h1
    simp only [pan]
    go_wp2_with (fail)
    exact ⟨rfl, k1, rfl⟩
  | good v m =>
    rw [hR] at HC
    have HC := Lib.hid HC
    clear h hR
    go_enter Try.func55, Try.ntmps55
    go_wp2_with (fail)
    refine HC.out.mono ?_
    rintro r w1 ⟨k1, ⟨x, rfl, rfl⟩, h1⟩
    have K1 := Lib.hid k1
    have I1 := Lib.hid h1
    clear k1 h1
    go_wp2_with (fail)
    go_ret
    exact ⟨K1.out, ⟨_, rfl, rfl⟩, I1.out⟩
set_option maxRecDepth 100000 in
set_option maxHeartbeats 2000000 in
theorem rcount_ok {w : World} {p n c k : Nat} {lim : Int} {A : Option Addr} {bd : List Int} (h : RdAt w p A n c bd 0 k) :
    Calls Try.prog 25 #[.pointer (some ⟨p, 0, none⟩), .int .i64 lim] w (Nexts w p A n c bd k (.int .i64 0) (rCount (bd.drop k) lim) (fun v _ x => x = .int .i64 v)) := by
  obtain ⟨q, hq⟩ : ∃ q, w.heap.size = q := ⟨_, rfl⟩
  have k0 : Ch No w (w.alloc (.cells #[.int .i64 lim] 3)) := Ch.new w _
  have cq : (w.alloc (.cells #[.int .i64 lim] 3)).cell? ⟨q, 0, none⟩ = some (.int .i64 lim) := by rw [World.cell?_alloc_at _ _ _ _ hq.symm]; rfl
  have HN := Lib.hid (nextI_all (f := 55) (cap := #[.pointer (some ⟨q, 0, none⟩)]) (h.no k0) (enters_of Try.func55 (by kernel_rfl) rfl) (fun W g hc hg hi => count_clo hi (hc.cell cq (fun h' => h'))) (fun v W W' x hx _ => hx))
  have K0 := Lib.hid k0
  clear h k0
  have hmf : ∀ (fn : Fn) (first cap : Array Value) (w : World), (Instr.makeFunc fn first cap).run Try.prog w = .ok (.func fn first cap) w := fun _ _ _ _ => rfl
  go_enter Try.func25, Try.ntmps25
  go_wp2_with (fail)
  refine HN.out.mono ?_
  rintro r w1 h
  obtain ⟨x, rfl, h⟩ := nexts_ret h
  have H := Lib.hid (nexts_after K0.out h)
  clear h
  go_wp2_with (fail)
  go_ret
  exact H.out
set_option maxRecDepth 100000 in
set_option maxHeartbeats 2000000 in
theorem rcount_err {w : World} {p n c k : Nat} {A : Option Addr} {bd : List Int} {er lim : Int} (h : RdAt w p A n c bd er k) (he : ¬ er = 0) :
    Calls Try.prog 25 #[.pointer (some ⟨p, 0, none⟩), .int .i64 lim] w fun r w' => r = .returned (.int .i64 0) ∧ Ch No w w' := by
  obtain ⟨q, hq⟩ : ∃ q, w.heap.size = q := ⟨_, rfl⟩
  have k0 : Ch No w (w.alloc (.cells #[.int .i64 lim] 3)) := Ch.new w _
  have HN := Lib.hid (nextI_err (fv := .func (.func 55) #[] #[.pointer (some ⟨q, 0, none⟩)]) (h.no k0) he)
  have K0 := Lib.hid k0
  clear h k0
  have hmf : ∀ (fn : Fn) (first cap : Array Value) (w : World), (Instr.makeFunc fn first cap).run Try.prog w = .ok (.func fn first cap) w := fun _ _ _ _ => rfl
  go_enter Try.func25, Try.ntmps25
  go_wp2_with (fail)
  refine HN.out.mono ?_
  rintro r w1 ⟨rfl, h⟩
  have H := Lib.hid (K0.out.then h)
  clear h
  go_wp2_with (fail)
  go_ret
  exact ⟨rfl, H.out⟩
set_option maxRecDepth 100000 in
set_option maxHeartbeats 2000000 in
theorem rcount_no {w : World} {r : Value} {lim : Int} (h : NoRd w r) :
    Calls Try.prog 25 #[r, .int .i64 lim] w fun e w' => e = .returned (.int .i64 0) ∧ Ch No w w' := by
  obtain ⟨q, hq⟩ : ∃ q, w.heap.size = q := ⟨_, rfl⟩
  have k0 : Ch No w (w.alloc (.cells #[.int .i64 lim] 3)) := Ch.new w _
  have HN := Lib.hid (nextI_no (fv := .func (.func 55) #[] #[.pointer (some ⟨q, 0, none⟩)]) (h.no k0))
  have K0 := Lib.hid k0
  clear h k0
  have hmf : ∀ (fn : Fn) (first cap : Array Value) (w : World), (Instr.makeFunc fn first cap).run Try.prog w = .ok (.func fn first cap) w := fun _ _ _ _ => rfl
  go_enter Try.func25, Try.ntmps25
  go_wp2_with (fail)
  refine HN.out.mono ?_
  rintro r w1 ⟨rfl, h⟩
  have H := Lib.hid (K0.out.then h)
  clear h
  go_wp2_with (fail)
  go_ret
  exact ⟨rfl, H.out⟩
set_option maxRecDepth 100000 in
set_option maxHeartbeats 2000000 in
theorem rText_len {l : List Int} {lim : Int} {v : List Int} {m : Nat} (h : rText l lim = .good v m) : v.length ≤ l.length := by
  obtain ⟨n, k, -, -, -, rfl⟩ := rText_le h
  rw [List.length_take, List.length_drop]
  omega
set_option maxRecDepth 100000 in
set_option maxHeartbeats 2000000 in
theorem bytes_clo {W : World} {g n c k L B : Nat} {lim : Int} {A : Option Addr} {bd : List Int} (h : Inp W g A n c bd k) (hL : W.cell? ⟨L, 0, none⟩ = some (.int .i64 lim)) (hB : B ≤ W.heap.size) :
    Calls Try.prog 58 #[.pointer (some ⟨g, 0, none⟩), .pointer (some ⟨L, 0, none⟩)] W (Reads W g A n c bd k (rText (bd.drop k) lim) fun v w' x => Ow 5 .u8 w' B x v) := by
  have HC := text_any (lim := lim) h
  have HB := Lib.hid hB
  cases hR : rText (bd.drop k) lim with
  | bad e =>
    rw [hR] at HC
    have HC := Lib.hid HC
    clear h hR hB
    go_enter Try.func58, Try.ntmps58
    go_wp2_with (fail)
    refine HC.out.mono ?_
    rintro r w1 ⟨k1, h1⟩
    simp only at h1
    subst h1
    simp only [pan]
    go_wp2_with (fail)
    exact ⟨rfl, k1, rfl⟩
  | good v m =>
    rw [hR] at HC
    have HC := Lib.hid HC
    have HL : Hid (v.length < 100000000) := Lib.hid (by have h1 := rText_len hR; have h2 := h.rest; have h3 := h.2.2.2.2.1; omega)
    clear h hR hB
    go_enter Try.func58, Try.ntmps58
    go_wp2_with (fail)
    refine HC.out.mono ?_
    rintro r w1 ⟨k1, ⟨x, rfl, hx⟩, h1⟩
    have HD := Lib.hid (clone_any hx HL.out)
    have K1 := Lib.hid k1
    have I1 := Lib.hid h1
    clear k1 h1 hx
    go_wp2_with (fail)
    refine HD.out.mono ?_
    rintro r w2 ⟨x2, rfl, o2, k2⟩
    have O2 : Hid (Ow 5 .u8 w2 B x2 v) := Lib.hid (o2.less (Nat.le_trans HB.out K1.out.size))
    have K2 := Lib.hid k2
    clear o2 k2
    go_wp2_with (fail)
    go_ret
    exact ⟨K1.out.then K2.out, ⟨_, rfl, O2.out⟩, I1.out.ch K2.out⟩
set_option maxRecDepth 100000 in
set_option maxHeartbeats 2000000 in
theorem rbytes_ok {w : World} {p n c k : Nat} {lim : Int} {A : Option Addr} {bd : List Int} (h : RdAt w p A n c bd 0 k) :
    Calls Try.prog 26 #[.pointer (some ⟨p, 0, none⟩), .int .i64 lim] w (Nexts w p A n c bd k (.slice none 0 0) (rText (bd.drop k) lim) (fun v w' x => Ow 5 .u8 w' (w.heap.size + 1) x v)) := by
  obtain ⟨q, hq⟩ : ∃ q, w.heap.size = q := ⟨_, rfl⟩
  have k0 : Ch No w (w.alloc (.cells #[.int .i64 lim] 3)) := Ch.new w _
  have cq : (w.alloc (.cells #[.int .i64 lim] 3)).cell? ⟨q, 0, none⟩ = some (.int .i64 lim) := by rw [World.cell?_alloc_at _ _ _ _ hq.symm]; rfl
  have HN := Lib.hid (nextY_all (f := 58) (cap := #[.pointer (some ⟨q, 0, none⟩)]) (h.no k0) (enters_of Try.func58 (by kernel_rfl) rfl) (fun W g hc hg hi => bytes_clo hi (hc.cell cq (fun h' => h')) (by have := hc.size; simp at this; omega)) (fun v W W' x hx hc => hx.ch hc fun b hb e => by have := (hx.lt hb).1; simp at e; omega))
  have K0 := Lib.hid k0
  clear h k0
  have hmf : ∀ (fn : Fn) (first cap : Array Value) (w : World), (Instr.makeFunc fn first cap).run Try.prog w = .ok (.func fn first cap) w := fun _ _ _ _ => rfl
  go_enter Try.func26, Try.ntmps26
  go_wp2_with (fail)
  refine HN.out.mono ?_
  rintro r w1 h
  obtain ⟨x, rfl, h⟩ := nexts_ret h
  have H := Lib.hid (nexts_after K0.out h)
  clear h
  go_wp2_with (fail)
  go_ret
  exact H.out
set_option maxRecDepth 100000 in
set_option maxHeartbeats 2000000 in
theorem rbytes_err {w : World} {p n c k : Nat} {A : Option Addr} {bd : List Int} {er lim : Int} (h : RdAt w p A n c bd er k) (he : ¬ er = 0) :
    Calls Try.prog 26 #[.pointer (some ⟨p, 0, none⟩), .int .i64 lim] w fun r w' => r = .returned (.slice none 0 0) ∧ Ch No w w' := by
  obtain ⟨q, hq⟩ : ∃ q, w.heap.size = q := ⟨_, rfl⟩
  have k0 : Ch No w (w.alloc (.cells #[.int .i64 lim] 3)) := Ch.new w _
  have HN := Lib.hid (nextY_err (fv := .func (.func 58) #[] #[.pointer (some ⟨q, 0, none⟩)]) (h.no k0) he)
  have K0 := Lib.hid k0
  clear h k0
  have hmf : ∀ (fn : Fn) (first cap : Array Value) (w : World), (Instr.makeFunc fn first cap).run Try.prog w = .ok (.func fn first cap) w := fun _ _ _ _ => rfl
  go_enter Try.func26, Try.ntmps26
  go_wp2_with (fail)
  refine HN.out.mono ?_
  rintro r w1 ⟨rfl, h⟩
  have H := Lib.hid (K0.out.then h)
  clear h
  go_wp2_with (fail)
  go_ret
  exact ⟨rfl, H.out⟩
set_option maxRecDepth 100000 in
set_option maxHeartbeats 2000000 in
theorem rbytes_no {w : World} {r : Value} {lim : Int} (h : NoRd w r) :
    Calls Try.prog 26 #[r, .int .i64 lim] w fun e w' => e = .returned (.slice none 0 0) ∧ Ch No w w' := by
  obtain ⟨q, hq⟩ : ∃ q, w.heap.size = q := ⟨_, rfl⟩
  have k0 : Ch No w (w.alloc (.cells #[.int .i64 lim] 3)) := Ch.new w _
  have HN := Lib.hid (nextY_no (fv := .func (.func 58) #[] #[.pointer (some ⟨q, 0, none⟩)]) (h.no k0))
  have K0 := Lib.hid k0
  clear h k0
  have hmf : ∀ (fn : Fn) (first cap : Array Value) (w : World), (Instr.makeFunc fn first cap).run Try.prog w = .ok (.func fn first cap) w := fun _ _ _ _ => rfl
  go_enter Try.func26, Try.ntmps26
  go_wp2_with (fail)
  refine HN.out.mono ?_
  rintro r w1 ⟨rfl, h⟩
  have H := Lib.hid (K0.out.then h)
  clear h
  go_wp2_with (fail)
  go_ret
  exact ⟨rfl, H.out⟩
set_option maxRecDepth 100000 in
set_option maxHeartbeats 2000000 in
theorem string_clo {W : World} {g n c k L : Nat} {lim : Int} {A : Option Addr} {bd : List Int} (h : Inp W g A n c bd k) (hL : W.cell? ⟨L, 0, none⟩ = some (.int .i64 lim)) :
    Calls Try.prog 61 #[.pointer (some ⟨g, 0, none⟩), .pointer (some ⟨L, 0, none⟩)] W (Reads W g A n c bd k (rText (bd.drop k) lim) fun v _ x => x = .string (strOfNums v)) := by
  have HC := text_any (lim := lim) h
  cases hR : rText (bd.drop k) lim with
  | bad e =>
    rw [hR] at HC
    have HC := Lib.hid HC
    clear h hR
    go_enter Try.func61, Try.ntmps61
    go_wp2_with (fail)
    refine HC.out.mono ?_
    rintro r w1 ⟨k1, h1⟩
    simp only at h1
    subst h1
    simp only [pan]
    go_wp2_with (fail)
    exact ⟨rfl, k1, rfl⟩
  | good v m =>
    rw [hR] at HC
    have HC := Lib.hid HC
    clear h hR
    go_enter Try.func61, Try.ntmps61
    go_wp2_with (fail)
    refine HC.out.mono ?_
    rintro r w1 ⟨k1, ⟨x, rfl, hx⟩, h1⟩
    have hcv := conv_rw hx
    have K1 := Lib.hid k1
    have I1 := Lib.hid h1
    clear k1 h1 hx
    obtain ⟨s, hs⟩ : ∃ s, s = strOfNums v := ⟨_, rfl⟩
    rw [← hs] at hcv
    have HS := Lib.hid hs
    clear hs
    go_wp2_with (fail)
    go_ret
    exact ⟨K1.out, ⟨_, rfl, congrArg Value.string HS.out⟩, I1.out⟩
set_option maxRecDepth 100000 in
set_option maxHeartbeats 2000000 in
theorem rstring_ok {w : World} {p n c k : Nat} {lim : Int} {A : Option Addr} {bd : List Int} (h : RdAt w p A n c bd 0 k) :
    Calls Try.prog 27 #[.pointer (some ⟨p, 0, none⟩), .int .i64 lim] w (Nexts w p A n c bd k (.string ⟨#[]⟩) (rText (bd.drop k) lim) (fun v _ x => x = .string (strOfNums v))) := by
  obtain ⟨q, hq⟩ : ∃ q, w.heap.size = q := ⟨_, rfl⟩
  have k0 : Ch No w (w.alloc (.cells #[.int .i64 lim] 3)) := Ch.new w _
  have cq : (w.alloc (.cells #[.int .i64 lim] 3)).cell? ⟨q, 0, none⟩ = some (.int .i64 lim) := by rw [World.cell?_alloc_at _ _ _ _ hq.symm]; rfl
  have HN := Lib.hid (nextS_all (f := 61) (cap := #[.pointer (some ⟨q, 0, none⟩)]) (h.no k0) (enters_of Try.func61 (by kernel_rfl) rfl) (fun W g hc hg hi => string_clo hi (hc.cell cq (fun h' => h'))) (fun v W W' x hx _ => hx))
  have K0 := Lib.hid k0
  clear h k0
  have hmf : ∀ (fn : Fn) (first cap : Array Value) (w : World), (Instr.makeFunc fn first cap).run Try.prog w = .ok (.func fn first cap) w := fun _ _ _ _ => rfl
  go_enter Try.func27, Try.ntmps27
  go_wp2_with (fail)
  refine HN.out.mono ?_
  rintro r w1 h
  obtain ⟨x, rfl, h⟩ := nexts_ret h
  have H := Lib.hid (nexts_after K0.out h)
  clear h
  go_wp2_with (fail)
  go_ret
  exact H.out
set_option maxRecDepth 100000 in
set_option maxHeartbeats 2000000 in
theorem rstring_err {w : World} {p n c k : Nat} {A : Option Addr} {bd : List Int} {er lim : Int} (h : RdAt w p A n c bd er k) (he : ¬ er = 0) :
    Calls Try.prog 27 #[.pointer (some ⟨p, 0, none⟩), .int .i64 lim] w fun r w' => r = .returned (.string ⟨#[]⟩) ∧ Ch No w w' := by
  obtain ⟨q, hq⟩ : ∃ q, w.heap.size = q := ⟨_, rfl⟩
  have k0 : Ch No w (w.alloc (.cells #[.int .i64 lim] 3)) := Ch.new w _
  have HN := Lib.hid (nextS_err (fv := .func (.func 61) #[] #[.pointer (some ⟨q, 0, none⟩)]) (h.no k0) he)
  have K0 := Lib.hid k0
  clear h k0
  have hmf : ∀ (fn : Fn) (first cap : Array Value) (w : World), (Instr.makeFunc fn first cap).run Try.prog w = .ok (.func fn first cap) w := fun _ _ _ _ => rfl
  go_enter Try.func27, Try.ntmps27
  go_wp2_with (fail)
  refine HN.out.mono ?_
  rintro r w1 ⟨rfl, h⟩
  have H := Lib.hid (K0.out.then h)
  clear h
  go_wp2_with (fail)
  go_ret
  exact ⟨rfl, H.out⟩
set_option maxRecDepth 100000 in
set_option maxHeartbeats 2000000 in
theorem rstring_no {w : World} {r : Value} {lim : Int} (h : NoRd w r) :
    Calls Try.prog 27 #[r, .int .i64 lim] w fun e w' => e = .returned (.string ⟨#[]⟩) ∧ Ch No w w' := by
  obtain ⟨q, hq⟩ : ∃ q, w.heap.size = q := ⟨_, rfl⟩
  have k0 : Ch No w (w.alloc (.cells #[.int .i64 lim] 3)) := Ch.new w _
  have HN := Lib.hid (nextS_no (fv := .func (.func 61) #[] #[.pointer (some ⟨q, 0, none⟩)]) (h.no k0))
  have K0 := Lib.hid k0
  clear h k0
  have hmf : ∀ (fn : Fn) (first cap : Array Value) (w : World), (Instr.makeFunc fn first cap).run Try.prog w = .ok (.func fn first cap) w := fun _ _ _ _ => rfl
  go_enter Try.func27, Try.ntmps27
  go_wp2_with (fail)
  refine HN.out.mono ?_
  rintro r w1 ⟨rfl, h⟩
  have H := Lib.hid (K0.out.then h)
  clear h
  go_wp2_with (fail)
  go_ret
  exact ⟨rfl, H.out⟩
set_option maxRecDepth 100000 in
set_option maxHeartbeats 2000000 in
theorem ints_clo {W : World} {g n c k L B : Nat} {lim : Int} {A : Option Addr} {bd : List Int} (h : Inp W g A n c bd k) (hL : W.cell? ⟨L, 0, none⟩ = some (.int .i64 lim)) (hB : B ≤ W.heap.size) :
    Calls Try.prog 63 #[.pointer (some ⟨g, 0, none⟩), .pointer (some ⟨L, 0, none⟩)] W (Reads W g A n c bd k (rList (bd.drop k) lim) fun v w' x => Ow 3 .i64 w' B x v) := by
  have HC := list_any (lim := lim) h
  have HB := Lib.hid hB
  cases hR : rList (bd.drop k) lim with
  | bad e =>
    rw [hR] at HC
    have HC := Lib.hid HC
    clear h hR hB
    go_enter Try.func63, Try.ntmps63
    go_wp2_with (fail)
    refine HC.out.mono ?_
    rintro r w1 ⟨k1, h1⟩
    simp only at h1
    subst h1
    simp only [pan]
    go_wp2_with (fail)
    exact ⟨rfl, k1, rfl⟩
  | good v m =>
    rw [hR] at HC
    have HC := Lib.hid HC
    clear h hR hB
    go_enter Try.func63, Try.ntmps63
    go_wp2_with (fail)
    refine HC.out.mono ?_
    rintro r w1 ⟨k1, ⟨x, rfl, hx⟩, h1⟩
    have K1 := Lib.hid k1
    have I1 := Lib.hid h1
    have X1 := Lib.hid hx
    clear k1 h1 hx
    go_wp2_with (fail)
    go_ret
    exact ⟨K1.out, ⟨_, rfl, X1.out.less HB.out⟩, I1.out⟩
set_option maxRecDepth 100000 in
set_option maxHeartbeats 2000000 in
theorem rints_ok {w : World} {p n c k : Nat} {lim : Int} {A : Option Addr} {bd : List Int} (h : RdAt w p A n c bd 0 k) :
    Calls Try.prog 29 #[.pointer (some ⟨p, 0, none⟩), .int .i64 lim] w (Nexts w p A n c bd k (.slice none 0 0) (rList (bd.drop k) lim) (fun v w' x => Ow 3 .i64 w' (w.heap.size + 1) x v)) := by
  obtain ⟨q, hq⟩ : ∃ q, w.heap.size = q := ⟨_, rfl⟩
  have k0 : Ch No w (w.alloc (.cells #[.int .i64 lim] 3)) := Ch.new w _
  have cq : (w.alloc (.cells #[.int .i64 lim] 3)).cell? ⟨q, 0, none⟩ = some (.int .i64 lim) := by rw [World.cell?_alloc_at _ _ _ _ hq.symm]; rfl
  have HN := Lib.hid (nextL_all (f := 63) (cap := #[.pointer (some ⟨q, 0, none⟩)]) (h.no k0) (enters_of Try.func63 (by kernel_rfl) rfl) (fun W g hc hg hi => ints_clo hi (hc.cell cq (fun h' => h')) (by have := hc.size; simp at this; omega)) (fun v W W' x hx hc => hx.ch hc fun b hb e => by have := (hx.lt hb).1; simp at e; omega))
  have K0 := Lib.hid k0
  clear h k0
  have hmf : ∀ (fn : Fn) (first cap : Array Value) (w : World), (Instr.makeFunc fn first cap).run Try.prog w = .ok (.func fn first cap) w := fun _ _ _ _ => rfl
  go_enter Try.func29, Try.ntmps29
  go_wp2_with (fail)
  refine HN.out.mono ?_
  rintro r w1 h
  obtain ⟨x, rfl, h⟩ := nexts_ret h
  have H := Lib.hid (nexts_after K0.out h)
  clear h
  go_wp2_with (fail)
  go_ret
  exact H.out
set_option maxRecDepth 100000 in
set_option maxHeartbeats 2000000 in
theorem rints_err {w : World} {p n c k : Nat} {A : Option Addr} {bd : List Int} {er lim : Int} (h : RdAt w p A n c bd er k) (he : ¬ er = 0) :
    Calls Try.prog 29 #[.pointer (some ⟨p, 0, none⟩), .int .i64 lim] w fun r w' => r = .returned (.slice none 0 0) ∧ Ch No w w' := by
  obtain ⟨q, hq⟩ : ∃ q, w.heap.size = q := ⟨_, rfl⟩
  have k0 : Ch No w (w.alloc (.cells #[.int .i64 lim] 3)) := Ch.new w _
  have HN := Lib.hid (nextL_err (fv := .func (.func 63) #[] #[.pointer (some ⟨q, 0, none⟩)]) (h.no k0) he)
  have K0 := Lib.hid k0
  clear h k0
  have hmf : ∀ (fn : Fn) (first cap : Array Value) (w : World), (Instr.makeFunc fn first cap).run Try.prog w = .ok (.func fn first cap) w := fun _ _ _ _ => rfl
  go_enter Try.func29, Try.ntmps29
  go_wp2_with (fail)
  refine HN.out.mono ?_
  rintro r w1 ⟨rfl, h⟩
  have H := Lib.hid (K0.out.then h)
  clear h
  go_wp2_with (fail)
  go_ret
  exact ⟨rfl, H.out⟩
set_option maxRecDepth 100000 in
set_option maxHeartbeats 2000000 in
theorem rints_no {w : World} {r : Value} {lim : Int} (h : NoRd w r) :
    Calls Try.prog 29 #[r, .int .i64 lim] w fun e w' => e = .returned (.slice none 0 0) ∧ Ch No w w' := by
  obtain ⟨q, hq⟩ : ∃ q, w.heap.size = q := ⟨_, rfl⟩
  have k0 : Ch No w (w.alloc (.cells #[.int .i64 lim] 3)) := Ch.new w _
  have HN := Lib.hid (nextL_no (fv := .func (.func 63) #[] #[.pointer (some ⟨q, 0, none⟩)]) (h.no k0))
  have K0 := Lib.hid k0
  clear h k0
  have hmf : ∀ (fn : Fn) (first cap : Array Value) (w : World), (Instr.makeFunc fn first cap).run Try.prog w = .ok (.func fn first cap) w := fun _ _ _ _ => rfl
  go_enter Try.func29, Try.ntmps29
  go_wp2_with (fail)
  refine HN.out.mono ?_
  rintro r w1 ⟨rfl, h⟩
  have H := Lib.hid (K0.out.then h)
  clear h
  go_wp2_with (fail)
  go_ret
  exact ⟨rfl, H.out⟩
end Go.Proofs.Ytocdjieaphkbdaa
