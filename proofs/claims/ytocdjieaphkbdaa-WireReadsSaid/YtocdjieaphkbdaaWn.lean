/- Package wire: next. -/
import Derived.Test.YtocdjieaphkbdaaWm
namespace Go.Proofs.Ytocdjieaphkbdaa
open Go.RowKit

set_option maxRecDepth 100000 in
set_option maxHeartbeats 4000000 in
theorem nextI_bad {α : Type} {w : World} {p n c k f e0 : Nat} {A : Option Addr} {bd : List Int} {cap : Array Value} {F : α → World → Value → Prop} (h : RdAt w p A n c bd 0 k)
    (hen : ∀ args w, (callFunc f args).run Try.prog w = .ok (.enter f args) w)
    (hval : ∀ W g, Ch No w W → w.heap.size ≤ g → Inp W g A n c bd k → Calls Try.prog f (#[.pointer (some ⟨g, 0, none⟩)] ++ cap) W (Reads W g A n c bd k (.bad e0) F)) :
    Calls Try.prog 50 #[.pointer (some ⟨p, 0, none⟩), .func (.func f) #[] cap] w (Nexts w p A n c bd k (.int .i64 0) (.bad e0) F) := by
  obtain ⟨q, hq⟩ : ∃ q, w.heap.size = q := ⟨_, rfl⟩
  have k0 : Ch No w (w.alloc (.cells #[.pointer (some ⟨p, 0, none⟩)] 41)) := Ch.new w _
  have h0 := h.no k0
  have HI := Lib.hid (is_yes h0)
  have HFl := Lib.hid (failed_0 h0.c0)
  have cq : (w.alloc (.cells #[.pointer (some ⟨p, 0, none⟩)] 41)).cell? ⟨q, 0, none⟩ = some (.pointer (some ⟨p, 0, none⟩)) := by rw [World.cell?_alloc_at _ _ _ _ hq.symm]; rfl
  have e2 := h0.c2
  have e3 := h0.c3
  have K1 : Hid (Ch No w ((w.alloc (.cells #[.pointer (some ⟨p, 0, none⟩)] 41)).alloc (.cells #[.slice A n c, .int .i64 k] 79))) := Lib.hid (k0.alloc _)
  have hs1 : (w.alloc (.cells #[.pointer (some ⟨p, 0, none⟩)] 41)).heap.size = q + 1 := by simp [hq]
  have HH : Hid (((w.alloc (.cells #[.pointer (some ⟨p, 0, none⟩)] 41)).alloc (.cells #[.slice A n c, .int .i64 k] 79)).heap[q + 1]? = some (.cells #[.slice A n c, .int .i64 k] 79 (0, 0))) := Lib.hid (by rw [← hs1]; exact heap_alloc_new _ _)
  have HV := Lib.hid (hval _ (q + 1) K1.out (by omega) (h.inp K1.out (by omega) HH.out))
  have CQ : Hid (((w.alloc (.cells #[.pointer (some ⟨p, 0, none⟩)] 41)).alloc (.cells #[.slice A n c, .int .i64 k] 79)).cell? ⟨q, 0, none⟩ = some (.pointer (some ⟨p, 0, none⟩))) := Lib.hid ((Ch.new _ _).cell cq (fun h' => h'))
  have HX := Lib.hid h
  have HQ : Hid (p < q ∧ w.heap.size = q) := Lib.hid ⟨hq ▸ h.lt, hq⟩
  clear hval h h0 k0 hs1
  have hmf : ∀ (fn : Fn) (first cap : Array Value) (w : World), (Instr.makeFunc fn first cap).run Try.prog w = .ok (.func fn first cap) w := fun _ _ _ _ => rfl
  go_enter_defers Try.func50, Try.ntmps50
  go_wp2_with (fail)
  refine HI.out.mono ?_
  rintro e w1 ⟨rfl, hw1⟩
  rw [hw1]
  clear hw1
  go_wp2_with (fail)
  refine HFl.out.mono ?_
  rintro e w1 ⟨rfl, hw1⟩
  rw [hw1]
  clear hw1
  go_wp2_with (fail)
  refine HV.out.mono ?_
  rintro r W1 ⟨k1, h1⟩
  simp only at h1
  subst h1
  simp only [pan]
  refine leaves_cons (f := 72) (args := #[.pointer (some ⟨q, 0, none⟩)]) (by simp) (by simp [go_sem]) ?_
  have K2 : Ch No w W1 := K1.out.trans k1 fun i hi e => by have := HQ.out; omega
  have HX1 := HX.out.no K2
  refine (catchI_panic q p e0 [] _ (k1.cell CQ.out (fun e => by omega)) HX1.c0 (HX1.free 0)).mono ?_
  rintro e u' w'' ⟨rfl, rfl, rfl⟩
  simp [Leaves, settle, results, Try.results50, go_sem]
  exact ⟨K2.no.trans (Ch.put _ _ _ _) fun _ _ h => h, rfl, HX1.err _⟩
set_option maxRecDepth 100000 in
set_option maxHeartbeats 4000000 in
theorem nextI_good {α : Type} {w : World} {p n c k f m : Nat} {v : α} {A : Option Addr} {bd : List Int} {cap : Array Value} {F : α → World → Value → Prop} (h : RdAt w p A n c bd 0 k)
    (hen : ∀ args w, (callFunc f args).run Try.prog w = .ok (.enter f args) w)
    (hval : ∀ W g, Ch No w W → w.heap.size ≤ g → Inp W g A n c bd k → Calls Try.prog f (#[.pointer (some ⟨g, 0, none⟩)] ++ cap) W (Reads W g A n c bd k (.good v m) F))
    (hF : ∀ W W' x, F v W x → Ch (fun i => i < w.heap.size) W W' → F v W' x) :
    Calls Try.prog 50 #[.pointer (some ⟨p, 0, none⟩), .func (.func f) #[] cap] w (Nexts w p A n c bd k (.int .i64 0) (.good v m) F) := by
  obtain ⟨q, hq⟩ : ∃ q, w.heap.size = q := ⟨_, rfl⟩
  have k0 : Ch No w (w.alloc (.cells #[.pointer (some ⟨p, 0, none⟩)] 41)) := Ch.new w _
  have h0 := h.no k0
  have HI := Lib.hid (is_yes h0)
  have HFl := Lib.hid (failed_0 h0.c0)
  have cq : (w.alloc (.cells #[.pointer (some ⟨p, 0, none⟩)] 41)).cell? ⟨q, 0, none⟩ = some (.pointer (some ⟨p, 0, none⟩)) := by rw [World.cell?_alloc_at _ _ _ _ hq.symm]; rfl
  have e2 := h0.c2
  have e3 := h0.c3
  have K1 : Hid (Ch No w ((w.alloc (.cells #[.pointer (some ⟨p, 0, none⟩)] 41)).alloc (.cells #[.slice A n c, .int .i64 k] 79))) := Lib.hid (k0.alloc _)
  have hs1 : (w.alloc (.cells #[.pointer (some ⟨p, 0, none⟩)] 41)).heap.size = q + 1 := by simp [hq]
  have HH : Hid (((w.alloc (.cells #[.pointer (some ⟨p, 0, none⟩)] 41)).alloc (.cells #[.slice A n c, .int .i64 k] 79)).heap[q + 1]? = some (.cells #[.slice A n c, .int .i64 k] 79 (0, 0))) := Lib.hid (by rw [← hs1]; exact heap_alloc_new _ _)
  have HV := Lib.hid (hval _ (q + 1) K1.out (by omega) (h.inp K1.out (by omega) HH.out))
  have CQ : Hid (((w.alloc (.cells #[.pointer (some ⟨p, 0, none⟩)] 41)).alloc (.cells #[.slice A n c, .int .i64 k] 79)).cell? ⟨q, 0, none⟩ = some (.pointer (some ⟨p, 0, none⟩))) := Lib.hid ((Ch.new _ _).cell cq (fun h' => h'))
  have HX := Lib.hid h
  have HQ : Hid (p < q ∧ w.heap.size = q) := Lib.hid ⟨hq ▸ h.lt, hq⟩
  clear hval h h0 k0 hs1
  have hmf : ∀ (fn : Fn) (first cap : Array Value) (w : World), (Instr.makeFunc fn first cap).run Try.prog w = .ok (.func fn first cap) w := fun _ _ _ _ => rfl
  go_enter_defers Try.func50, Try.ntmps50
  go_wp2_with (fail)
  refine HI.out.mono ?_
  rintro e w1 ⟨rfl, hw1⟩
  rw [hw1]
  clear hw1
  go_wp2_with (fail)
  refine HFl.out.mono ?_
  rintro e w1 ⟨rfl, hw1⟩
  rw [hw1]
  clear hw1
  go_wp2_with (fail)
  refine HV.out.mono ?_
  rintro r W1 ⟨k1, ⟨x, rfl, hx⟩, i1⟩
  have K2 := Lib.hid (show Ch No w W1 from K1.out.trans k1 fun i hi e => by have := HQ.out; omega)
  have HX1 := Lib.hid (HX.out.no K2.out)
  have cq1 := k1.cell CQ.out (fun e => by omega)
  have d0 := i1.c0
  have d1 := i1.c1
  have r2 := HX1.out.c2
  have r3 := HX1.out.c3
  have f2 := HX1.out.free 2
  have f3 := HX1.out.free 3
  have HI1 := Lib.hid i1
  have HFX := Lib.hid hx
  have HT := Lib.hid (HX1.out.to i1.2.2.2.1)
  have K3 := Lib.hid (show Ch (fun i => i = p) w ((W1.setCell ⟨p, 2, none⟩ (.slice A n c)).setCell ⟨p, 3, none⟩ (.int .i64 ((k + m : Nat) : Int))) from (K2.out.no.trans (Ch.put _ _ _ _) fun _ _ h => h).trans (Ch.put _ _ _ _) fun _ _ h => h)
  have hcq := (((Ch.put W1 p 2 (.slice A n c)).trans (Ch.put _ p 3 (.int .i64 ((k + m : Nat) : Int))) fun _ _ h => h).cell cq1 (fun e => by have := HQ.out; omega))
  have KF := Lib.hid (show Ch (fun i => i < w.heap.size) W1 ((W1.setCell ⟨p, 2, none⟩ (.slice A n c)).setCell ⟨p, 3, none⟩ (.int .i64 ((k + m : Nat) : Int))) from ((Ch.put W1 p 2 (.slice A n c)).trans (Ch.put _ p 3 (.int .i64 ((k + m : Nat) : Int))) fun _ _ h => h).mono fun i _ e => by have := HQ.out; omega)
  clear k1 i1 hx e2 e3 cq
  obtain ⟨km, hkm⟩ : ∃ km, k + m = km := ⟨_, rfl⟩
  rw [hkm] at d1 HT K3 KF hcq
  have HKM := Lib.hid hkm
  clear hkm HI1
  go_wp2_with (fail)
  refine leaves_cons (f := 72) (args := #[.pointer (some ⟨q, 0, none⟩)]) (by simp) (by simp [go_sem]) ?_
  refine (catchI_idle q _).mono ?_
  rintro e u' w'' ⟨rfl, rfl, rfl⟩
  simp [Leaves, settle, results, Try.results50, go_sem]
  refine ⟨K3.out, ⟨_, rfl, hF _ _ _ HFX.out KF.out⟩, ?_⟩
  rw [HKM.out]
  exact HT.out
set_option maxRecDepth 100000 in
set_option maxHeartbeats 4000000 in
theorem nextI_err {w : World} {p n c k : Nat} {er : Int} {A : Option Addr} {bd : List Int} {fv : Value} (h : RdAt w p A n c bd er k) (he : ¬ er = 0) :
    Calls Try.prog 50 #[.pointer (some ⟨p, 0, none⟩), fv] w fun r w' => r = .returned (.int .i64 0) ∧ Ch No w w' := by
  have k0 : Ch No w (w.alloc (.cells #[.pointer (some ⟨p, 0, none⟩)] 41)) := Ch.new w _
  have h0 := h.no k0
  have HI := Lib.hid (is_yes h0)
  have HFl := Lib.hid (failed_1 h0.c0 he)
  have cq : (w.alloc (.cells #[.pointer (some ⟨p, 0, none⟩)] 41)).cell? ⟨w.heap.size, 0, none⟩ = some (.pointer (some ⟨p, 0, none⟩)) := by rw [World.cell?_alloc_at _ _ _ _ rfl]; rfl
  clear h h0
  go_enter_defers Try.func50, Try.ntmps50
  go_wp2_with (fail)
  refine HI.out.mono ?_
  rintro e w1 ⟨rfl, hw1⟩
  rw [hw1]
  clear hw1
  go_wp2_with (fail)
  refine HFl.out.mono ?_
  rintro e w1 ⟨rfl, hw1⟩
  rw [hw1]
  clear hw1
  go_wp2_with (fail)
  simp [bodyPostD, Leaves, settle, results, Try.results50, go_sem]
  exact k0
set_option maxRecDepth 100000 in
set_option maxHeartbeats 4000000 in
theorem nextI_no {w : World} {r fv : Value} (h : NoRd w r) :
    Calls Try.prog 50 #[r, fv] w fun e w' => e = .returned (.int .i64 0) ∧ Ch No w w' := by
  obtain rfl | ⟨p, rfl⟩ : r = .pointer none ∨ ∃ p, r = .pointer (some ⟨p, 0, none⟩) := by
    rcases h with e | ⟨p, e, -⟩
    · exact .inl e
    · exact .inr ⟨p, e⟩
  · have k0 : Ch No w (w.alloc (.cells #[.pointer none] 41)) := Ch.new w _
    have HI := Lib.hid (is_no (h.no k0))
    have cq : (w.alloc (.cells #[.pointer none] 41)).cell? ⟨w.heap.size, 0, none⟩ = some (.pointer none) := by rw [World.cell?_alloc_at _ _ _ _ rfl]; rfl
    clear h
    go_enter_defers Try.func50, Try.ntmps50
    go_wp2_with (fail)
    refine HI.out.mono ?_
    rintro e w1 ⟨rfl, hw1⟩
    rw [hw1]
    clear hw1
    go_wp2_with (fail)
    simp [bodyPostD, Leaves, settle, results, Try.results50, go_sem]
    exact k0
  · have k0 : Ch No w (w.alloc (.cells #[.pointer (some ⟨p, 0, none⟩)] 41)) := Ch.new w _
    have HI := Lib.hid (is_no (h.no k0))
    have cq : (w.alloc (.cells #[.pointer (some ⟨p, 0, none⟩)] 41)).cell? ⟨w.heap.size, 0, none⟩ = some (.pointer (some ⟨p, 0, none⟩)) := by rw [World.cell?_alloc_at _ _ _ _ rfl]; rfl
    clear h
    go_enter_defers Try.func50, Try.ntmps50
    go_wp2_with (fail)
    refine HI.out.mono ?_
    rintro e w1 ⟨rfl, hw1⟩
    rw [hw1]
    clear hw1
    go_wp2_with (fail)
    simp [bodyPostD, Leaves, settle, results, Try.results50, go_sem]
    exact k0
set_option maxRecDepth 100000 in
set_option maxHeartbeats 4000000 in
theorem nextB_bad {α : Type} {w : World} {p n c k f e0 : Nat} {A : Option Addr} {bd : List Int} {cap : Array Value} {F : α → World → Value → Prop} (h : RdAt w p A n c bd 0 k)
    (hen : ∀ args w, (callFunc f args).run Try.prog w = .ok (.enter f args) w)
    (hval : ∀ W g, Ch No w W → w.heap.size ≤ g → Inp W g A n c bd k → Calls Try.prog f (#[.pointer (some ⟨g, 0, none⟩)] ++ cap) W (Reads W g A n c bd k (.bad e0) F)) :
    Calls Try.prog 53 #[.pointer (some ⟨p, 0, none⟩), .func (.func f) #[] cap] w (Nexts w p A n c bd k (.bool false) (.bad e0) F) := by
  obtain ⟨q, hq⟩ : ∃ q, w.heap.size = q := ⟨_, rfl⟩
  have k0 : Ch No w (w.alloc (.cells #[.pointer (some ⟨p, 0, none⟩)] 41)) := Ch.new w _
  have h0 := h.no k0
  have HI := Lib.hid (is_yes h0)
  have HFl := Lib.hid (failed_0 h0.c0)
  have cq : (w.alloc (.cells #[.pointer (some ⟨p, 0, none⟩)] 41)).cell? ⟨q, 0, none⟩ = some (.pointer (some ⟨p, 0, none⟩)) := by rw [World.cell?_alloc_at _ _ _ _ hq.symm]; rfl
  have e2 := h0.c2
  have e3 := h0.c3
  have K1 : Hid (Ch No w ((w.alloc (.cells #[.pointer (some ⟨p, 0, none⟩)] 41)).alloc (.cells #[.slice A n c, .int .i64 k] 79))) := Lib.hid (k0.alloc _)
  have hs1 : (w.alloc (.cells #[.pointer (some ⟨p, 0, none⟩)] 41)).heap.size = q + 1 := by simp [hq]
  have HH : Hid (((w.alloc (.cells #[.pointer (some ⟨p, 0, none⟩)] 41)).alloc (.cells #[.slice A n c, .int .i64 k] 79)).heap[q + 1]? = some (.cells #[.slice A n c, .int .i64 k] 79 (0, 0))) := Lib.hid (by rw [← hs1]; exact heap_alloc_new _ _)
  have HV := Lib.hid (hval _ (q + 1) K1.out (by omega) (h.inp K1.out (by omega) HH.out))
  have CQ : Hid (((w.alloc (.cells #[.pointer (some ⟨p, 0, none⟩)] 41)).alloc (.cells #[.slice A n c, .int .i64 k] 79)).cell? ⟨q, 0, none⟩ = some (.pointer (some ⟨p, 0, none⟩))) := Lib.hid ((Ch.new _ _).cell cq (fun h' => h'))
  have HX := Lib.hid h
  have HQ : Hid (p < q ∧ w.heap.size = q) := Lib.hid ⟨hq ▸ h.lt, hq⟩
  clear hval h h0 k0 hs1
  have hmf : ∀ (fn : Fn) (first cap : Array Value) (w : World), (Instr.makeFunc fn first cap).run Try.prog w = .ok (.func fn first cap) w := fun _ _ _ _ => rfl
  go_enter_defers Try.func53, Try.ntmps53
  go_wp2_with (fail)
  refine HI.out.mono ?_
  rintro e w1 ⟨rfl, hw1⟩
  rw [hw1]
  clear hw1
  go_wp2_with (fail)
  refine HFl.out.mono ?_
  rintro e w1 ⟨rfl, hw1⟩
  rw [hw1]
  clear hw1
  go_wp2_with (fail)
  refine HV.out.mono ?_
  rintro r W1 ⟨k1, h1⟩
  simp only at h1
  subst h1
  simp only [pan]
  refine leaves_cons (f := 74) (args := #[.pointer (some ⟨q, 0, none⟩)]) (by simp) (by simp [go_sem]) ?_
  have K2 : Ch No w W1 := K1.out.trans k1 fun i hi e => by have := HQ.out; omega
  have HX1 := HX.out.no K2
  refine (catchB_panic q p e0 [] _ (k1.cell CQ.out (fun e => by omega)) HX1.c0 (HX1.free 0)).mono ?_
  rintro e u' w'' ⟨rfl, rfl, rfl⟩
  simp [Leaves, settle, results, Try.results53, go_sem]
  exact ⟨K2.no.trans (Ch.put _ _ _ _) fun _ _ h => h, rfl, HX1.err _⟩
set_option maxRecDepth 100000 in
set_option maxHeartbeats 4000000 in
theorem nextB_good {α : Type} {w : World} {p n c k f m : Nat} {v : α} {A : Option Addr} {bd : List Int} {cap : Array Value} {F : α → World → Value → Prop} (h : RdAt w p A n c bd 0 k)
    (hen : ∀ args w, (callFunc f args).run Try.prog w = .ok (.enter f args) w)
    (hval : ∀ W g, Ch No w W → w.heap.size ≤ g → Inp W g A n c bd k → Calls Try.prog f (#[.pointer (some ⟨g, 0, none⟩)] ++ cap) W (Reads W g A n c bd k (.good v m) F))
    (hF : ∀ W W' x, F v W x → Ch (fun i => i < w.heap.size) W W' → F v W' x) :
    Calls Try.prog 53 #[.pointer (some ⟨p, 0, none⟩), .func (.func f) #[] cap] w (Nexts w p A n c bd k (.bool false) (.good v m) F) := by
  obtain ⟨q, hq⟩ : ∃ q, w.heap.size = q := ⟨_, rfl⟩
  have k0 : Ch No w (w.alloc (.cells #[.pointer (some ⟨p, 0, none⟩)] 41)) := Ch.new w _
  have h0 := h.no k0
  have HI := Lib.hid (is_yes h0)
  have HFl := Lib.hid (failed_0 h0.c0)
  have cq : (w.alloc (.cells #[.pointer (some ⟨p, 0, none⟩)] 41)).cell? ⟨q, 0, none⟩ = some (.pointer (some ⟨p, 0, none⟩)) := by rw [World.cell?_alloc_at _ _ _ _ hq.symm]; rfl
  have e2 := h0.c2
  have e3 := h0.c3
  have K1 : Hid (Ch No w ((w.alloc (.cells #[.pointer (some ⟨p, 0, none⟩)] 41)).alloc (.cells #[.slice A n c, .int .i64 k] 79))) := Lib.hid (k0.alloc _)
  have hs1 : (w.alloc (.cells #[.pointer (some ⟨p, 0, none⟩)] 41)).heap.size = q + 1 := by simp [hq]
  have HH : Hid (((w.alloc (.cells #[.pointer (some ⟨p, 0, none⟩)] 41)).alloc (.cells #[.slice A n c, .int .i64 k] 79)).heap[q + 1]? = some (.cells #[.slice A n c, .int .i64 k] 79 (0, 0))) := Lib.hid (by rw [← hs1]; exact heap_alloc_new _ _)
  have HV := Lib.hid (hval _ (q + 1) K1.out (by omega) (h.inp K1.out (by omega) HH.out))
  have CQ : Hid (((w.alloc (.cells #[.pointer (some ⟨p, 0, none⟩)] 41)).alloc (.cells #[.slice A n c, .int .i64 k] 79)).cell? ⟨q, 0, none⟩ = some (.pointer (some ⟨p, 0, none⟩))) := Lib.hid ((Ch.new _ _).cell cq (fun h' => h'))
  have HX := Lib.hid h
  have HQ : Hid (p < q ∧ w.heap.size = q) := Lib.hid ⟨hq ▸ h.lt, hq⟩
  clear hval h h0 k0 hs1
  have hmf : ∀ (fn : Fn) (first cap : Array Value) (w : World), (Instr.makeFunc fn first cap).run Try.prog w = .ok (.func fn first cap) w := fun _ _ _ _ => rfl
  go_enter_defers Try.func53, Try.ntmps53
  go_wp2_with (fail)
  refine HI.out.mono ?_
  rintro e w1 ⟨rfl, hw1⟩
  rw [hw1]
  clear hw1
  go_wp2_with (fail)
  refine HFl.out.mono ?_
  rintro e w1 ⟨rfl, hw1⟩
  rw [hw1]
  clear hw1
  go_wp2_with (fail)
  refine HV.out.mono ?_
  rintro r W1 ⟨k1, ⟨x, rfl, hx⟩, i1⟩
  have K2 := Lib.hid (show Ch No w W1 from K1.out.trans k1 fun i hi e => by have := HQ.out; omega)
  have HX1 := Lib.hid (HX.out.no K2.out)
  have cq1 := k1.cell CQ.out (fun e => by omega)
  have d0 := i1.c0
  have d1 := i1.c1
  have r2 := HX1.out.c2
  have r3 := HX1.out.c3
  have f2 := HX1.out.free 2
  have f3 := HX1.out.free 3
  have HI1 := Lib.hid i1
  have HFX := Lib.hid hx
  have HT := Lib.hid (HX1.out.to i1.2.2.2.1)
  have K3 := Lib.hid (show Ch (fun i => i = p) w ((W1.setCell ⟨p, 2, none⟩ (.slice A n c)).setCell ⟨p, 3, none⟩ (.int .i64 ((k + m : Nat) : Int))) from (K2.out.no.trans (Ch.put _ _ _ _) fun _ _ h => h).trans (Ch.put _ _ _ _) fun _ _ h => h)
  have hcq := (((Ch.put W1 p 2 (.slice A n c)).trans (Ch.put _ p 3 (.int .i64 ((k + m : Nat) : Int))) fun _ _ h => h).cell cq1 (fun e => by have := HQ.out; omega))
  have KF := Lib.hid (show Ch (fun i => i < w.heap.size) W1 ((W1.setCell ⟨p, 2, none⟩ (.slice A n c)).setCell ⟨p, 3, none⟩ (.int .i64 ((k + m : Nat) : Int))) from ((Ch.put W1 p 2 (.slice A n c)).trans (Ch.put _ p 3 (.int .i64 ((k + m : Nat) : Int))) fun _ _ h => h).mono fun i _ e => by have := HQ.out; omega)
  clear k1 i1 hx e2 e3 cq
  obtain ⟨km, hkm⟩ : ∃ km, k + m = km := ⟨_, rfl⟩
  rw [hkm] at d1 HT K3 KF hcq
  have HKM := Lib.hid hkm
  clear hkm HI1
  go_wp2_with (fail)
  refine leaves_cons (f := 74) (args := #[.pointer (some ⟨q, 0, none⟩)]) (by simp) (by simp [go_sem]) ?_
  refine (catchB_idle q _).mono ?_
  rintro e u' w'' ⟨rfl, rfl, rfl⟩
  simp [Leaves, settle, results, Try.results53, go_sem]
  refine ⟨K3.out, ⟨_, rfl, hF _ _ _ HFX.out KF.out⟩, ?_⟩
  rw [HKM.out]
  exact HT.out
set_option maxRecDepth 100000 in
set_option maxHeartbeats 4000000 in
theorem nextB_err {w : World} {p n c k : Nat} {er : Int} {A : Option Addr} {bd : List Int} {fv : Value} (h : RdAt w p A n c bd er k) (he : ¬ er = 0) :
    Calls Try.prog 53 #[.pointer (some ⟨p, 0, none⟩), fv] w fun r w' => r = .returned (.bool false) ∧ Ch No w w' := by
  have k0 : Ch No w (w.alloc (.cells #[.pointer (some ⟨p, 0, none⟩)] 41)) := Ch.new w _
  have h0 := h.no k0
  have HI := Lib.hid (is_yes h0)
  have HFl := Lib.hid (failed_1 h0.c0 he)
  have cq : (w.alloc (.cells #[.pointer (some ⟨p, 0, none⟩)] 41)).cell? ⟨w.heap.size, 0, none⟩ = some (.pointer (some ⟨p, 0, none⟩)) := by rw [World.cell?_alloc_at _ _ _ _ rfl]; rfl
  clear h h0
  go_enter_defers Try.func53, Try.ntmps53
  go_wp2_with (fail)
  refine HI.out.mono ?_
  rintro e w1 ⟨rfl, hw1⟩
  rw [hw1]
  clear hw1
  go_wp2_with (fail)
  refine HFl.out.mono ?_
  rintro e w1 ⟨rfl, hw1⟩
  rw [hw1]
  clear hw1
  go_wp2_with (fail)
  simp [bodyPostD, Leaves, settle, results, Try.results53, go_sem]
  exact k0
set_option maxRecDepth 100000 in
set_option maxHeartbeats 4000000 in
theorem nextB_no {w : World} {r fv : Value} (h : NoRd w r) :
    Calls Try.prog 53 #[r, fv] w fun e w' => e = .returned (.bool false) ∧ Ch No w w' := by
  obtain rfl | ⟨p, rfl⟩ : r = .pointer none ∨ ∃ p, r = .pointer (some ⟨p, 0, none⟩) := by
    rcases h with e | ⟨p, e, -⟩
    · exact .inl e
    · exact .inr ⟨p, e⟩
  · have k0 : Ch No w (w.alloc (.cells #[.pointer none] 41)) := Ch.new w _
    have HI := Lib.hid (is_no (h.no k0))
    have cq : (w.alloc (.cells #[.pointer none] 41)).cell? ⟨w.heap.size, 0, none⟩ = some (.pointer none) := by rw [World.cell?_alloc_at _ _ _ _ rfl]; rfl
    clear h
    go_enter_defers Try.func53, Try.ntmps53
    go_wp2_with (fail)
    refine HI.out.mono ?_
    rintro e w1 ⟨rfl, hw1⟩
    rw [hw1]
    clear hw1
    go_wp2_with (fail)
    simp [bodyPostD, Leaves, settle, results, Try.results53, go_sem]
    exact k0
  · have k0 : Ch No w (w.alloc (.cells #[.pointer (some ⟨p, 0, none⟩)] 41)) := Ch.new w _
    have HI := Lib.hid (is_no (h.no k0))
    have cq : (w.alloc (.cells #[.pointer (some ⟨p, 0, none⟩)] 41)).cell? ⟨w.heap.size, 0, none⟩ = some (.pointer (some ⟨p, 0, none⟩)) := by rw [World.cell?_alloc_at _ _ _ _ rfl]; rfl
    clear h
    go_enter_defers Try.func53, Try.ntmps53
    go_wp2_with (fail)
    refine HI.out.mono ?_
    rintro e w1 ⟨rfl, hw1⟩
    rw [hw1]
    clear hw1
    go_wp2_with (fail)
    simp [bodyPostD, Leaves, settle, results, Try.results53, go_sem]
    exact k0
set_option maxRecDepth 100000 in
set_option maxHeartbeats 4000000 in
theorem nextY_bad {α : Type} {w : World} {p n c k f e0 : Nat} {A : Option Addr} {bd : List Int} {cap : Array Value} {F : α → World → Value → Prop} (h : RdAt w p A n c bd 0 k)
    (hen : ∀ args w, (callFunc f args).run Try.prog w = .ok (.enter f args) w)
    (hval : ∀ W g, Ch No w W → w.heap.size ≤ g → Inp W g A n c bd k → Calls Try.prog f (#[.pointer (some ⟨g, 0, none⟩)] ++ cap) W (Reads W g A n c bd k (.bad e0) F)) :
    Calls Try.prog 57 #[.pointer (some ⟨p, 0, none⟩), .func (.func f) #[] cap] w (Nexts w p A n c bd k (.slice none 0 0) (.bad e0) F) := by
  obtain ⟨q, hq⟩ : ∃ q, w.heap.size = q := ⟨_, rfl⟩
  have k0 : Ch No w (w.alloc (.cells #[.pointer (some ⟨p, 0, none⟩)] 41)) := Ch.new w _
  have h0 := h.no k0
  have HI := Lib.hid (is_yes h0)
  have HFl := Lib.hid (failed_0 h0.c0)
  have cq : (w.alloc (.cells #[.pointer (some ⟨p, 0, none⟩)] 41)).cell? ⟨q, 0, none⟩ = some (.pointer (some ⟨p, 0, none⟩)) := by rw [World.cell?_alloc_at _ _ _ _ hq.symm]; rfl
  have e2 := h0.c2
  have e3 := h0.c3
  have K1 : Hid (Ch No w ((w.alloc (.cells #[.pointer (some ⟨p, 0, none⟩)] 41)).alloc (.cells #[.slice A n c, .int .i64 k] 79))) := Lib.hid (k0.alloc _)
  have hs1 : (w.alloc (.cells #[.pointer (some ⟨p, 0, none⟩)] 41)).heap.size = q + 1 := by simp [hq]
  have HH : Hid (((w.alloc (.cells #[.pointer (some ⟨p, 0, none⟩)] 41)).alloc (.cells #[.slice A n c, .int .i64 k] 79)).heap[q + 1]? = some (.cells #[.slice A n c, .int .i64 k] 79 (0, 0))) := Lib.hid (by rw [← hs1]; exact heap_alloc_new _ _)
  have HV := Lib.hid (hval _ (q + 1) K1.out (by omega) (h.inp K1.out (by omega) HH.out))
  have CQ : Hid (((w.alloc (.cells #[.pointer (some ⟨p, 0, none⟩)] 41)).alloc (.cells #[.slice A n c, .int .i64 k] 79)).cell? ⟨q, 0, none⟩ = some (.pointer (some ⟨p, 0, none⟩))) := Lib.hid ((Ch.new _ _).cell cq (fun h' => h'))
  have HX := Lib.hid h
  have HQ : Hid (p < q ∧ w.heap.size = q) := Lib.hid ⟨hq ▸ h.lt, hq⟩
  clear hval h h0 k0 hs1
  have hmf : ∀ (fn : Fn) (first cap : Array Value) (w : World), (Instr.makeFunc fn first cap).run Try.prog w = .ok (.func fn first cap) w := fun _ _ _ _ => rfl
  go_enter_defers Try.func57, Try.ntmps57
  go_wp2_with (fail)
  refine HI.out.mono ?_
  rintro e w1 ⟨rfl, hw1⟩
  rw [hw1]
  clear hw1
  go_wp2_with (fail)
  refine HFl.out.mono ?_
  rintro e w1 ⟨rfl, hw1⟩
  rw [hw1]
  clear hw1
  go_wp2_with (fail)
  refine HV.out.mono ?_
  rintro r W1 ⟨k1, h1⟩
  simp only at h1
  subst h1
  simp only [pan]
  refine leaves_cons (f := 76) (args := #[.pointer (some ⟨q, 0, none⟩)]) (by simp) (by simp [go_sem]) ?_
  have K2 : Ch No w W1 := K1.out.trans k1 fun i hi e => by have := HQ.out; omega
  have HX1 := HX.out.no K2
  refine (catchY_panic q p e0 [] _ (k1.cell CQ.out (fun e => by omega)) HX1.c0 (HX1.free 0)).mono ?_
  rintro e u' w'' ⟨rfl, rfl, rfl⟩
  simp [Leaves, settle, results, Try.results57, go_sem]
  exact ⟨K2.no.trans (Ch.put _ _ _ _) fun _ _ h => h, rfl, HX1.err _⟩
set_option maxRecDepth 100000 in
set_option maxHeartbeats 4000000 in
theorem nextY_good {α : Type} {w : World} {p n c k f m : Nat} {v : α} {A : Option Addr} {bd : List Int} {cap : Array Value} {F : α → World → Value → Prop} (h : RdAt w p A n c bd 0 k)
    (hen : ∀ args w, (callFunc f args).run Try.prog w = .ok (.enter f args) w)
    (hval : ∀ W g, Ch No w W → w.heap.size ≤ g → Inp W g A n c bd k → Calls Try.prog f (#[.pointer (some ⟨g, 0, none⟩)] ++ cap) W (Reads W g A n c bd k (.good v m) F))
    (hF : ∀ W W' x, F v W x → Ch (fun i => i < w.heap.size) W W' → F v W' x) :
    Calls Try.prog 57 #[.pointer (some ⟨p, 0, none⟩), .func (.func f) #[] cap] w (Nexts w p A n c bd k (.slice none 0 0) (.good v m) F) := by
  obtain ⟨q, hq⟩ : ∃ q, w.heap.size = q := ⟨_, rfl⟩
  have k0 : Ch No w (w.alloc (.cells #[.pointer (some ⟨p, 0, none⟩)] 41)) := Ch.new w _
  have h0 := h.no k0
  have HI := Lib.hid (is_yes h0)
  have HFl := Lib.hid (failed_0 h0.c0)
  have cq : (w.alloc (.cells #[.pointer (some ⟨p, 0, none⟩)] 41)).cell? ⟨q, 0, none⟩ = some (.pointer (some ⟨p, 0, none⟩)) := by rw [World.cell?_alloc_at _ _ _ _ hq.symm]; rfl
  have e2 := h0.c2
  have e3 := h0.c3
  have K1 : Hid (Ch No w ((w.alloc (.cells #[.pointer (some ⟨p, 0, none⟩)] 41)).alloc (.cells #[.slice A n c, .int .i64 k] 79))) := Lib.hid (k0.alloc _)
  have hs1 : (w.alloc (.cells #[.pointer (some ⟨p, 0, none⟩)] 41)).heap.size = q + 1 := by simp [hq]
  have HH : Hid (((w.alloc (.cells #[.pointer (some ⟨p, 0, none⟩)] 41)).alloc (.cells #[.slice A n c, .int .i64 k] 79)).heap[q + 1]? = some (.cells #[.slice A n c, .int .i64 k] 79 (0, 0))) := Lib.hid (by rw [← hs1]; exact heap_alloc_new _ _)
  have HV := Lib.hid (hval _ (q + 1) K1.out (by omega) (h.inp K1.out (by omega) HH.out))
  have CQ : Hid (((w.alloc (.cells #[.pointer (some ⟨p, 0, none⟩)] 41)).alloc (.cells #[.slice A n c, .int .i64 k] 79)).cell? ⟨q, 0, none⟩ = some (.pointer (some ⟨p, 0, none⟩))) := Lib.hid ((Ch.new _ _).cell cq (fun h' => h'))
  have HX := Lib.hid h
  have HQ : Hid (p < q ∧ w.heap.size = q) := Lib.hid ⟨hq ▸ h.lt, hq⟩
  clear hval h h0 k0 hs1
  have hmf : ∀ (fn : Fn) (first cap : Array Value) (w : World), (Instr.makeFunc fn first cap).run Try.prog w = .ok (.func fn first cap) w := fun _ _ _ _ => rfl
  go_enter_defers Try.func57, Try.ntmps57
  go_wp2_with (fail)
  refine HI.out.mono ?_
  rintro e w1 ⟨rfl, hw1⟩
  rw [hw1]
  clear hw1
  go_wp2_with (fail)
  refine HFl.out.mono ?_
  rintro e w1 ⟨rfl, hw1⟩
  rw [hw1]
  clear hw1
  go_wp2_with (fail)
  refine HV.out.mono ?_
  rintro r W1 ⟨k1, ⟨x, rfl, hx⟩, i1⟩
  have K2 := Lib.hid (show Ch No w W1 from K1.out.trans k1 fun i hi e => by have := HQ.out; omega)
  have HX1 := Lib.hid (HX.out.no K2.out)
  have cq1 := k1.cell CQ.out (fun e => by omega)
  have d0 := i1.c0
  have d1 := i1.c1
  have r2 := HX1.out.c2
  have r3 := HX1.out.c3
  have f2 := HX1.out.free 2
  have f3 := HX1.out.free 3
  have HI1 := Lib.hid i1
  have HFX := Lib.hid hx
  have HT := Lib.hid (HX1.out.to i1.2.2.2.1)
  have K3 := Lib.hid (show Ch (fun i => i = p) w ((W1.setCell ⟨p, 2, none⟩ (.slice A n c)).setCell ⟨p, 3, none⟩ (.int .i64 ((k + m : Nat) : Int))) from (K2.out.no.trans (Ch.put _ _ _ _) fun _ _ h => h).trans (Ch.put _ _ _ _) fun _ _ h => h)
  have hcq := (((Ch.put W1 p 2 (.slice A n c)).trans (Ch.put _ p 3 (.int .i64 ((k + m : Nat) : Int))) fun _ _ h => h).cell cq1 (fun e => by have := HQ.out; omega))
  have KF := Lib.hid (show Ch (fun i => i < w.heap.size) W1 ((W1.setCell ⟨p, 2, none⟩ (.slice A n c)).setCell ⟨p, 3, none⟩ (.int .i64 ((k + m : Nat) : Int))) from ((Ch.put W1 p 2 (.slice A n c)).trans (Ch.put _ p 3 (.int .i64 ((k + m : Nat) : Int))) fun _ _ h => h).mono fun i _ e => by have := HQ.out; omega)
  clear k1 i1 hx e2 e3 cq
  obtain ⟨km, hkm⟩ : ∃ km, k + m = km := ⟨_, rfl⟩
  rw [hkm] at d1 HT K3 KF hcq
  have HKM := Lib.hid hkm
  clear hkm HI1
  go_wp2_with (fail)
  refine leaves_cons (f := 76) (args := #[.pointer (some ⟨q, 0, none⟩)]) (by simp) (by simp [go_sem]) ?_
  refine (catchY_idle q _).mono ?_
  rintro e u' w'' ⟨rfl, rfl, rfl⟩
  simp [Leaves, settle, results, Try.results57, go_sem]
  refine ⟨K3.out, ⟨_, rfl, hF _ _ _ HFX.out KF.out⟩, ?_⟩
  rw [HKM.out]
  exact HT.out
set_option maxRecDepth 100000 in
set_option maxHeartbeats 4000000 in
theorem nextY_err {w : World} {p n c k : Nat} {er : Int} {A : Option Addr} {bd : List Int} {fv : Value} (h : RdAt w p A n c bd er k) (he : ¬ er = 0) :
    Calls Try.prog 57 #[.pointer (some ⟨p, 0, none⟩), fv] w fun r w' => r = .returned (.slice none 0 0) ∧ Ch No w w' := by
  have k0 : Ch No w (w.alloc (.cells #[.pointer (some ⟨p, 0, none⟩)] 41)) := Ch.new w _
  have h0 := h.no k0
  have HI := Lib.hid (is_yes h0)
  have HFl := Lib.hid (failed_1 h0.c0 he)
  have cq : (w.alloc (.cells #[.pointer (some ⟨p, 0, none⟩)] 41)).cell? ⟨w.heap.size, 0, none⟩ = some (.pointer (some ⟨p, 0, none⟩)) := by rw [World.cell?_alloc_at _ _ _ _ rfl]; rfl
  clear h h0
  go_enter_defers Try.func57, Try.ntmps57
  go_wp2_with (fail)
  refine HI.out.mono ?_
  rintro e w1 ⟨rfl, hw1⟩
  rw [hw1]
  clear hw1
  go_wp2_with (fail)
  refine HFl.out.mono ?_
  rintro e w1 ⟨rfl, hw1⟩
  rw [hw1]
  clear hw1
  go_wp2_with (fail)
  simp [bodyPostD, Leaves, settle, results, Try.results57, go_sem]
  exact k0
set_option maxRecDepth 100000 in
set_option maxHeartbeats 4000000 in
theorem nextY_no {w : World} {r fv : Value} (h : NoRd w r) :
    Calls Try.prog 57 #[r, fv] w fun e w' => e = .returned (.slice none 0 0) ∧ Ch No w w' := by
  obtain rfl | ⟨p, rfl⟩ : r = .pointer none ∨ ∃ p, r = .pointer (some ⟨p, 0, none⟩) := by
    rcases h with e | ⟨p, e, -⟩
    · exact .inl e
    · exact .inr ⟨p, e⟩
  · have k0 : Ch No w (w.alloc (.cells #[.pointer none] 41)) := Ch.new w _
    have HI := Lib.hid (is_no (h.no k0))
    have cq : (w.alloc (.cells #[.pointer none] 41)).cell? ⟨w.heap.size, 0, none⟩ = some (.pointer none) := by rw [World.cell?_alloc_at _ _ _ _ rfl]; rfl
    clear h
    go_enter_defers Try.func57, Try.ntmps57
    go_wp2_with (fail)
    refine HI.out.mono ?_
    rintro e w1 ⟨rfl, hw1⟩
    rw [hw1]
    clear hw1
    go_wp2_with (fail)
    simp [bodyPostD, Leaves, settle, results, Try.results57, go_sem]
    exact k0
  · have k0 : Ch No w (w.alloc (.cells #[.pointer (some ⟨p, 0, none⟩)] 41)) := Ch.new w _
    have HI := Lib.hid (is_no (h.no k0))
    have cq : (w.alloc (.cells #[.pointer (some ⟨p, 0, none⟩)] 41)).cell? ⟨w.heap.size, 0, none⟩ = some (.pointer (some ⟨p, 0, none⟩)) := by rw [World.cell?_alloc_at _ _ _ _ rfl]; rfl
    clear h
    go_enter_defers Try.func57, Try.ntmps57
    go_wp2_with (fail)
    refine HI.out.mono ?_
    rintro e w1 ⟨rfl, hw1⟩
    rw [hw1]
    clear hw1
    go_wp2_with (fail)
    simp [bodyPostD, Leaves, settle, results, Try.results57, go_sem]
    exact k0
set_option maxRecDepth 100000 in
set_option maxHeartbeats 4000000 in
theorem nextS_bad {α : Type} {w : World} {p n c k f e0 : Nat} {A : Option Addr} {bd : List Int} {cap : Array Value} {F : α → World → Value → Prop} (h : RdAt w p A n c bd 0 k)
    (hen : ∀ args w, (callFunc f args).run Try.prog w = .ok (.enter f args) w)
    (hval : ∀ W g, Ch No w W → w.heap.size ≤ g → Inp W g A n c bd k → Calls Try.prog f (#[.pointer (some ⟨g, 0, none⟩)] ++ cap) W (Reads W g A n c bd k (.bad e0) F)) :
    Calls Try.prog 60 #[.pointer (some ⟨p, 0, none⟩), .func (.func f) #[] cap] w (Nexts w p A n c bd k (.string ⟨#[]⟩) (.bad e0) F) := by
  obtain ⟨q, hq⟩ : ∃ q, w.heap.size = q := ⟨_, rfl⟩
  have k0 : Ch No w (w.alloc (.cells #[.pointer (some ⟨p, 0, none⟩)] 41)) := Ch.new w _
  have h0 := h.no k0
  have HI := Lib.hid (is_yes h0)
  have HFl := Lib.hid (failed_0 h0.c0)
  have cq : (w.alloc (.cells #[.pointer (some ⟨p, 0, none⟩)] 41)).cell? ⟨q, 0, none⟩ = some (.pointer (some ⟨p, 0, none⟩)) := by rw [World.cell?_alloc_at _ _ _ _ hq.symm]; rfl
  have e2 := h0.c2
  have e3 := h0.c3
  have K1 : Hid (Ch No w ((w.alloc (.cells #[.pointer (some ⟨p, 0, none⟩)] 41)).alloc (.cells #[.slice A n c, .int .i64 k] 79))) := Lib.hid (k0.alloc _)
  have hs1 : (w.alloc (.cells #[.pointer (some ⟨p, 0, none⟩)] 41)).heap.size = q + 1 := by simp [hq]
  have HH : Hid (((w.alloc (.cells #[.pointer (some ⟨p, 0, none⟩)] 41)).alloc (.cells #[.slice A n c, .int .i64 k] 79)).heap[q + 1]? = some (.cells #[.slice A n c, .int .i64 k] 79 (0, 0))) := Lib.hid (by rw [← hs1]; exact heap_alloc_new _ _)
  have HV := Lib.hid (hval _ (q + 1) K1.out (by omega) (h.inp K1.out (by omega) HH.out))
  have CQ : Hid (((w.alloc (.cells #[.pointer (some ⟨p, 0, none⟩)] 41)).alloc (.cells #[.slice A n c, .int .i64 k] 79)).cell? ⟨q, 0, none⟩ = some (.pointer (some ⟨p, 0, none⟩))) := Lib.hid ((Ch.new _ _).cell cq (fun h' => h'))
  have HX := Lib.hid h
  have HQ : Hid (p < q ∧ w.heap.size = q) := Lib.hid ⟨hq ▸ h.lt, hq⟩
  clear hval h h0 k0 hs1
  have hmf : ∀ (fn : Fn) (first cap : Array Value) (w : World), (Instr.makeFunc fn first cap).run Try.prog w = .ok (.func fn first cap) w := fun _ _ _ _ => rfl
  go_enter_defers Try.func60, Try.ntmps60
  go_wp2_with (fail)
  refine HI.out.mono ?_
  rintro e w1 ⟨rfl, hw1⟩
  rw [hw1]
  clear hw1
  go_wp2_with (fail)
  refine HFl.out.mono ?_
  rintro e w1 ⟨rfl, hw1⟩
  rw [hw1]
  clear hw1
  go_wp2_with (fail)
  refine HV.out.mono ?_
  rintro r W1 ⟨k1, h1⟩
  simp only at h1
  subst h1
  simp only [pan]
  refine leaves_cons (f := 77) (args := #[.pointer (some ⟨q, 0, none⟩)]) (by simp) (by simp [go_sem]) ?_
  have K2 : Ch No w W1 := K1.out.trans k1 fun i hi e => by have := HQ.out; omega
  have HX1 := HX.out.no K2
  refine (catchS_panic q p e0 [] _ (k1.cell CQ.out (fun e => by omega)) HX1.c0 (HX1.free 0)).mono ?_
  rintro e u' w'' ⟨rfl, rfl, rfl⟩
  simp [Leaves, settle, results, Try.results60, go_sem]
  exact ⟨K2.no.trans (Ch.put _ _ _ _) fun _ _ h => h, rfl, HX1.err _⟩
set_option maxRecDepth 100000 in
set_option maxHeartbeats 4000000 in
theorem nextS_good {α : Type} {w : World} {p n c k f m : Nat} {v : α} {A : Option Addr} {bd : List Int} {cap : Array Value} {F : α → World → Value → Prop} (h : RdAt w p A n c bd 0 k)
    (hen : ∀ args w, (callFunc f args).run Try.prog w = .ok (.enter f args) w)
    (hval : ∀ W g, Ch No w W → w.heap.size ≤ g → Inp W g A n c bd k → Calls Try.prog f (#[.pointer (some ⟨g, 0, none⟩)] ++ cap) W (Reads W g A n c bd k (.good v m) F))
    (hF : ∀ W W' x, F v W x → Ch (fun i => i < w.heap.size) W W' → F v W' x) :
    Calls Try.prog 60 #[.pointer (some ⟨p, 0, none⟩), .func (.func f) #[] cap] w (Nexts w p A n c bd k (.string ⟨#[]⟩) (.good v m) F) := by
  obtain ⟨q, hq⟩ : ∃ q, w.heap.size = q := ⟨_, rfl⟩
  have k0 : Ch No w (w.alloc (.cells #[.pointer (some ⟨p, 0, none⟩)] 41)) := Ch.new w _
  have h0 := h.no k0
  have HI := Lib.hid (is_yes h0)
  have HFl := Lib.hid (failed_0 h0.c0)
  have cq : (w.alloc (.cells #[.pointer (some ⟨p, 0, none⟩)] 41)).cell? ⟨q, 0, none⟩ = some (.pointer (some ⟨p, 0, none⟩)) := by rw [World.cell?_alloc_at _ _ _ _ hq.symm]; rfl
  have e2 := h0.c2
  have e3 := h0.c3
  have K1 : Hid (Ch No w ((w.alloc (.cells #[.pointer (some ⟨p, 0, none⟩)] 41)).alloc (.cells #[.slice A n c, .int .i64 k] 79))) := Lib.hid (k0.alloc _)
  have hs1 : (w.alloc (.cells #[.pointer (some ⟨p, 0, none⟩)] 41)).heap.size = q + 1 := by simp [hq]
  have HH : Hid (((w.alloc (.cells #[.pointer (some ⟨p, 0, none⟩)] 41)).alloc (.cells #[.slice A n c, .int .i64 k] 79)).heap[q + 1]? = some (.cells #[.slice A n c, .int .i64 k] 79 (0, 0))) := Lib.hid (by rw [← hs1]; exact heap_alloc_new _ _)
  have HV := Lib.hid (hval _ (q + 1) K1.out (by omega) (h.inp K1.out (by omega) HH.out))
  have CQ : Hid (((w.alloc (.cells #[.pointer (some ⟨p, 0, none⟩)] 41)).alloc (.cells #[.slice A n c, .int .i64 k] 79)).cell? ⟨q, 0, none⟩ = some (.pointer (some ⟨p, 0, none⟩))) := Lib.hid ((Ch.new _ _).cell cq (fun h' => h'))
  have HX := Lib.hid h
  have HQ : Hid (p < q ∧ w.heap.size = q) := Lib.hid ⟨hq ▸ h.lt, hq⟩
  clear hval h h0 k0 hs1
  have hmf : ∀ (fn : Fn) (first cap : Array Value) (w : World), (Instr.makeFunc fn first cap).run Try.prog w = .ok (.func fn first cap) w := fun _ _ _ _ => rfl
  go_enter_defers Try.func60, Try.ntmps60
  go_wp2_with (fail)
  refine HI.out.mono ?_
  rintro e w1 ⟨rfl, hw1⟩
  rw [hw1]
  clear hw1
  go_wp2_with (fail)
  refine HFl.out.mono ?_
  rintro e w1 ⟨rfl, hw1⟩
  rw [hw1]
  clear hw1
  go_wp2_with (fail)
  refine HV.out.mono ?_
  rintro r W1 ⟨k1, ⟨x, rfl, hx⟩, i1⟩
  have K2 := Lib.hid (show Ch No w W1 from K1.out.trans k1 fun i hi e => by have := HQ.out; omega)
  have HX1 := Lib.hid (HX.out.no K2.out)
  have cq1 := k1.cell CQ.out (fun e => by omega)
  have d0 := i1.c0
  have d1 := i1.c1
  have r2 := HX1.out.c2
  have r3 := HX1.out.c3
  have f2 := HX1.out.free 2
  have f3 := HX1.out.free 3
  have HI1 := Lib.hid i1
  have HFX := Lib.hid hx
  have HT := Lib.hid (HX1.out.to i1.2.2.2.1)
  have K3 := Lib.hid (show Ch (fun i => i = p) w ((W1.setCell ⟨p, 2, none⟩ (.slice A n c)).setCell ⟨p, 3, none⟩ (.int .i64 ((k + m : Nat) : Int))) from (K2.out.no.trans (Ch.put _ _ _ _) fun _ _ h => h).trans (Ch.put _ _ _ _) fun _ _ h => h)
  have hcq := (((Ch.put W1 p 2 (.slice A n c)).trans (Ch.put _ p 3 (.int .i64 ((k + m : Nat) : Int))) fun _ _ h => h).cell cq1 (fun e => by have := HQ.out; omega))
  have KF := Lib.hid (show Ch (fun i => i < w.heap.size) W1 ((W1.setCell ⟨p, 2, none⟩ (.slice A n c)).setCell ⟨p, 3, none⟩ (.int .i64 ((k + m : Nat) : Int))) from ((Ch.put W1 p 2 (.slice A n c)).trans (Ch.put _ p 3 (.int .i64 ((k + m : Nat) : Int))) fun _ _ h => h).mono fun i _ e => by have := HQ.out; omega)
  clear k1 i1 hx e2 e3 cq
  obtain ⟨km, hkm⟩ : ∃ km, k + m = km := ⟨_, rfl⟩
  rw [hkm] at d1 HT K3 KF hcq
  have HKM := Lib.hid hkm
  clear hkm HI1
  go_wp2_with (fail)
  refine leaves_cons (f := 77) (args := #[.pointer (some ⟨q, 0, none⟩)]) (by simp) (by simp [go_sem]) ?_
  refine (catchS_idle q _).mono ?_
  rintro e u' w'' ⟨rfl, rfl, rfl⟩
  simp [Leaves, settle, results, Try.results60, go_sem]
  refine ⟨K3.out, ⟨_, rfl, hF _ _ _ HFX.out KF.out⟩, ?_⟩
  rw [HKM.out]
  exact HT.out
set_option maxRecDepth 100000 in
set_option maxHeartbeats 4000000 in
theorem nextS_err {w : World} {p n c k : Nat} {er : Int} {A : Option Addr} {bd : List Int} {fv : Value} (h : RdAt w p A n c bd er k) (he : ¬ er = 0) :
    Calls Try.prog 60 #[.pointer (some ⟨p, 0, none⟩), fv] w fun r w' => r = .returned (.string ⟨#[]⟩) ∧ Ch No w w' := by
  have k0 : Ch No w (w.alloc (.cells #[.pointer (some ⟨p, 0, none⟩)] 41)) := Ch.new w _
  have h0 := h.no k0
  have HI := Lib.hid (is_yes h0)
  have HFl := Lib.hid (failed_1 h0.c0 he)
  have cq : (w.alloc (.cells #[.pointer (some ⟨p, 0, none⟩)] 41)).cell? ⟨w.heap.size, 0, none⟩ = some (.pointer (some ⟨p, 0, none⟩)) := by rw [World.cell?_alloc_at _ _ _ _ rfl]; rfl
  clear h h0
  go_enter_defers Try.func60, Try.ntmps60
  go_wp2_with (fail)
  refine HI.out.mono ?_
  rintro e w1 ⟨rfl, hw1⟩
  rw [hw1]
  clear hw1
  go_wp2_with (fail)
  refine HFl.out.mono ?_
  rintro e w1 ⟨rfl, hw1⟩
  rw [hw1]
  clear hw1
  go_wp2_with (fail)
  simp [bodyPostD, Leaves, settle, results, Try.results60, go_sem]
  exact k0
set_option maxRecDepth 100000 in
set_option maxHeartbeats 4000000 in
theorem nextS_no {w : World} {r fv : Value} (h : NoRd w r) :
    Calls Try.prog 60 #[r, fv] w fun e w' => e = .returned (.string ⟨#[]⟩) ∧ Ch No w w' := by
  obtain rfl | ⟨p, rfl⟩ : r = .pointer none ∨ ∃ p, r = .pointer (some ⟨p, 0, none⟩) := by
    rcases h with e | ⟨p, e, -⟩
    · exact .inl e
    · exact .inr ⟨p, e⟩
  · have k0 : Ch No w (w.alloc (.cells #[.pointer none] 41)) := Ch.new w _
    have HI := Lib.hid (is_no (h.no k0))
    have cq : (w.alloc (.cells #[.pointer none] 41)).cell? ⟨w.heap.size, 0, none⟩ = some (.pointer none) := by rw [World.cell?_alloc_at _ _ _ _ rfl]; rfl
    clear h
    go_enter_defers Try.func60, Try.ntmps60
    go_wp2_with (fail)
    refine HI.out.mono ?_
    rintro e w1 ⟨rfl, hw1⟩
    rw [hw1]
    clear hw1
    go_wp2_with (fail)
    simp [bodyPostD, Leaves, settle, results, Try.results60, go_sem]
    exact k0
  · have k0 : Ch No w (w.alloc (.cells #[.pointer (some ⟨p, 0, none⟩)] 41)) := Ch.new w _
    have HI := Lib.hid (is_no (h.no k0))
    have cq : (w.alloc (.cells #[.pointer (some ⟨p, 0, none⟩)] 41)).cell? ⟨w.heap.size, 0, none⟩ = some (.pointer (some ⟨p, 0, none⟩)) := by rw [World.cell?_alloc_at _ _ _ _ rfl]; rfl
    clear h
    go_enter_defers Try.func60, Try.ntmps60
    go_wp2_with (fail)
    refine HI.out.mono ?_
    rintro e w1 ⟨rfl, hw1⟩
    rw [hw1]
    clear hw1
    go_wp2_with (fail)
    simp [bodyPostD, Leaves, settle, results, Try.results60, go_sem]
    exact k0
set_option maxRecDepth 100000 in
set_option maxHeartbeats 4000000 in
theorem nextL_bad {α : Type} {w : World} {p n c k f e0 : Nat} {A : Option Addr} {bd : List Int} {cap : Array Value} {F : α → World → Value → Prop} (h : RdAt w p A n c bd 0 k)
    (hen : ∀ args w, (callFunc f args).run Try.prog w = .ok (.enter f args) w)
    (hval : ∀ W g, Ch No w W → w.heap.size ≤ g → Inp W g A n c bd k → Calls Try.prog f (#[.pointer (some ⟨g, 0, none⟩)] ++ cap) W (Reads W g A n c bd k (.bad e0) F)) :
    Calls Try.prog 62 #[.pointer (some ⟨p, 0, none⟩), .func (.func f) #[] cap] w (Nexts w p A n c bd k (.slice none 0 0) (.bad e0) F) := by
  obtain ⟨q, hq⟩ : ∃ q, w.heap.size = q := ⟨_, rfl⟩
  have k0 : Ch No w (w.alloc (.cells #[.pointer (some ⟨p, 0, none⟩)] 41)) := Ch.new w _
  have h0 := h.no k0
  have HI := Lib.hid (is_yes h0)
  have HFl := Lib.hid (failed_0 h0.c0)
  have cq : (w.alloc (.cells #[.pointer (some ⟨p, 0, none⟩)] 41)).cell? ⟨q, 0, none⟩ = some (.pointer (some ⟨p, 0, none⟩)) := by rw [World.cell?_alloc_at _ _ _ _ hq.symm]; rfl
  have e2 := h0.c2
  have e3 := h0.c3
  have K1 : Hid (Ch No w ((w.alloc (.cells #[.pointer (some ⟨p, 0, none⟩)] 41)).alloc (.cells #[.slice A n c, .int .i64 k] 79))) := Lib.hid (k0.alloc _)
  have hs1 : (w.alloc (.cells #[.pointer (some ⟨p, 0, none⟩)] 41)).heap.size = q + 1 := by simp [hq]
  have HH : Hid (((w.alloc (.cells #[.pointer (some ⟨p, 0, none⟩)] 41)).alloc (.cells #[.slice A n c, .int .i64 k] 79)).heap[q + 1]? = some (.cells #[.slice A n c, .int .i64 k] 79 (0, 0))) := Lib.hid (by rw [← hs1]; exact heap_alloc_new _ _)
  have HV := Lib.hid (hval _ (q + 1) K1.out (by omega) (h.inp K1.out (by omega) HH.out))
  have CQ : Hid (((w.alloc (.cells #[.pointer (some ⟨p, 0, none⟩)] 41)).alloc (.cells #[.slice A n c, .int .i64 k] 79)).cell? ⟨q, 0, none⟩ = some (.pointer (some ⟨p, 0, none⟩))) := Lib.hid ((Ch.new _ _).cell cq (fun h' => h'))
  have HX := Lib.hid h
  have HQ : Hid (p < q ∧ w.heap.size = q) := Lib.hid ⟨hq ▸ h.lt, hq⟩
  clear hval h h0 k0 hs1
  have hmf : ∀ (fn : Fn) (first cap : Array Value) (w : World), (Instr.makeFunc fn first cap).run Try.prog w = .ok (.func fn first cap) w := fun _ _ _ _ => rfl
  go_enter_defers Try.func62, Try.ntmps62
  go_wp2_with (fail)
  refine HI.out.mono ?_
  rintro e w1 ⟨rfl, hw1⟩
  rw [hw1]
  clear hw1
  go_wp2_with (fail)
  refine HFl.out.mono ?_
  rintro e w1 ⟨rfl, hw1⟩
  rw [hw1]
  clear hw1
  go_wp2_with (fail)
  refine HV.out.mono ?_
  rintro r W1 ⟨k1, h1⟩
  simp only at h1
  subst h1
  simp only [pan]
  refine leaves_cons (f := 78) (args := #[.pointer (some ⟨q, 0, none⟩)]) (by simp) (by simp [go_sem]) ?_
  have K2 : Ch No w W1 := K1.out.trans k1 fun i hi e => by have := HQ.out; omega
  have HX1 := HX.out.no K2
  refine (catchL_panic q p e0 [] _ (k1.cell CQ.out (fun e => by omega)) HX1.c0 (HX1.free 0)).mono ?_
  rintro e u' w'' ⟨rfl, rfl, rfl⟩
  simp [Leaves, settle, results, Try.results62, go_sem]
  exact ⟨K2.no.trans (Ch.put _ _ _ _) fun _ _ h => h, rfl, HX1.err _⟩
set_option maxRecDepth 100000 in
set_option maxHeartbeats 4000000 in
theorem nextL_good {α : Type} {w : World} {p n c k f m : Nat} {v : α} {A : Option Addr} {bd : List Int} {cap : Array Value} {F : α → World → Value → Prop} (h : RdAt w p A n c bd 0 k)
    (hen : ∀ args w, (callFunc f args).run Try.prog w = .ok (.enter f args) w)
    (hval : ∀ W g, Ch No w W → w.heap.size ≤ g → Inp W g A n c bd k → Calls Try.prog f (#[.pointer (some ⟨g, 0, none⟩)] ++ cap) W (Reads W g A n c bd k (.good v m) F))
    (hF : ∀ W W' x, F v W x → Ch (fun i => i < w.heap.size) W W' → F v W' x) :
    Calls Try.prog 62 #[.pointer (some ⟨p, 0, none⟩), .func (.func f) #[] cap] w (Nexts w p A n c bd k (.slice none 0 0) (.good v m) F) := by
  obtain ⟨q, hq⟩ : ∃ q, w.heap.size = q := ⟨_, rfl⟩
  have k0 : Ch No w (w.alloc (.cells #[.pointer (some ⟨p, 0, none⟩)] 41)) := Ch.new w _
  have h0 := h.no k0
  have HI := Lib.hid (is_yes h0)
  have HFl := Lib.hid (failed_0 h0.c0)
  have cq : (w.alloc (.cells #[.pointer (some ⟨p, 0, none⟩)] 41)).cell? ⟨q, 0, none⟩ = some (.pointer (some ⟨p, 0, none⟩)) := by rw [World.cell?_alloc_at _ _ _ _ hq.symm]; rfl
  have e2 := h0.c2
  have e3 := h0.c3
  have K1 : Hid (Ch No w ((w.alloc (.cells #[.pointer (some ⟨p, 0, none⟩)] 41)).alloc (.cells #[.slice A n c, .int .i64 k] 79))) := Lib.hid (k0.alloc _)
  have hs1 : (w.alloc (.cells #[.pointer (some ⟨p, 0, none⟩)] 41)).heap.size = q + 1 := by simp [hq]
  have HH : Hid (((w.alloc (.cells #[.pointer (some ⟨p, 0, none⟩)] 41)).alloc (.cells #[.slice A n c, .int .i64 k] 79)).heap[q + 1]? = some (.cells #[.slice A n c, .int .i64 k] 79 (0, 0))) := Lib.hid (by rw [← hs1]; exact heap_alloc_new _ _)
  have HV := Lib.hid (hval _ (q + 1) K1.out (by omega) (h.inp K1.out (by omega) HH.out))
  have CQ : Hid (((w.alloc (.cells #[.pointer (some ⟨p, 0, none⟩)] 41)).alloc (.cells #[.slice A n c, .int .i64 k] 79)).cell? ⟨q, 0, none⟩ = some (.pointer (some ⟨p, 0, none⟩))) := Lib.hid ((Ch.new _ _).cell cq (fun h' => h'))
  have HX := Lib.hid h
  have HQ : Hid (p < q ∧ w.heap.size = q) := Lib.hid ⟨hq ▸ h.lt, hq⟩
  clear hval h h0 k0 hs1
  have hmf : ∀ (fn : Fn) (first cap : Array Value) (w : World), (Instr.makeFunc fn first cap).run Try.prog w = .ok (.func fn first cap) w := fun _ _ _ _ => rfl
  go_enter_defers Try.func62, Try.ntmps62
  go_wp2_with (fail)
  refine HI.out.mono ?_
  rintro e w1 ⟨rfl, hw1⟩
  rw [hw1]
  clear hw1
  go_wp2_with (fail)
  refine HFl.out.mono ?_
  rintro e w1 ⟨rfl, hw1⟩
  rw [hw1]
  clear hw1
  go_wp2_with (fail)
  refine HV.out.mono ?_
  rintro r W1 ⟨k1, ⟨x, rfl, hx⟩, i1⟩
  have K2 := Lib.hid (show Ch No w W1 from K1.out.trans k1 fun i hi e => by have := HQ.out; omega)
  have HX1 := Lib.hid (HX.out.no K2.out)
  have cq1 := k1.cell CQ.out (fun e => by omega)
  have d0 := i1.c0
  have d1 := i1.c1
  have r2 := HX1.out.c2
  have r3 := HX1.out.c3
  have f2 := HX1.out.free 2
  have f3 := HX1.out.free 3
  have HI1 := Lib.hid i1
  have HFX := Lib.hid hx
  have HT := Lib.hid (HX1.out.to i1.2.2.2.1)
  have K3 := Lib.hid (show Ch (fun i => i = p) w ((W1.setCell ⟨p, 2, none⟩ (.slice A n c)).setCell ⟨p, 3, none⟩ (.int .i64 ((k + m : Nat) : Int))) from (K2.out.no.trans (Ch.put _ _ _ _) fun _ _ h => h).trans (Ch.put _ _ _ _) fun _ _ h => h)
  have hcq := (((Ch.put W1 p 2 (.slice A n c)).trans (Ch.put _ p 3 (.int .i64 ((k + m : Nat) : Int))) fun _ _ h => h).cell cq1 (fun e => by have := HQ.out; omega))
  have KF := Lib.hid (show Ch (fun i => i < w.heap.size) W1 ((W1.setCell ⟨p, 2, none⟩ (.slice A n c)).setCell ⟨p, 3, none⟩ (.int .i64 ((k + m : Nat) : Int))) from ((Ch.put W1 p 2 (.slice A n c)).trans (Ch.put _ p 3 (.int .i64 ((k + m : Nat) : Int))) fun _ _ h => h).mono fun i _ e => by have := HQ.out; omega)
  clear k1 i1 hx e2 e3 cq
  obtain ⟨km, hkm⟩ : ∃ km, k + m = km := ⟨_, rfl⟩
  rw [hkm] at d1 HT K3 KF hcq
  have HKM := Lib.hid hkm
  clear hkm HI1
  go_wp2_with (fail)
  refine leaves_cons (f := 78) (args := #[.pointer (some ⟨q, 0, none⟩)]) (by simp) (by simp [go_sem]) ?_
  refine (catchL_idle q _).mono ?_
  rintro e u' w'' ⟨rfl, rfl, rfl⟩
  simp [Leaves, settle, results, Try.results62, go_sem]
  refine ⟨K3.out, ⟨_, rfl, hF _ _ _ HFX.out KF.out⟩, ?_⟩
  rw [HKM.out]
  exact HT.out
set_option maxRecDepth 100000 in
set_option maxHeartbeats 4000000 in
theorem nextL_err {w : World} {p n c k : Nat} {er : Int} {A : Option Addr} {bd : List Int} {fv : Value} (h : RdAt w p A n c bd er k) (he : ¬ er = 0) :
    Calls Try.prog 62 #[.pointer (some ⟨p, 0, none⟩), fv] w fun r w' => r = .returned (.slice none 0 0) ∧ Ch No w w' := by
  have k0 : Ch No w (w.alloc (.cells #[.pointer (some ⟨p, 0, none⟩)] 41)) := Ch.new w _
  have h0 := h.no k0
  have HI := Lib.hid (is_yes h0)
  have HFl := Lib.hid (failed_1 h0.c0 he)
  have cq : (w.alloc (.cells #[.pointer (some ⟨p, 0, none⟩)] 41)).cell? ⟨w.heap.size, 0, none⟩ = some (.pointer (some ⟨p, 0, none⟩)) := by rw [World.cell?_alloc_at _ _ _ _ rfl]; rfl
  clear h h0
  go_enter_defers Try.func62, Try.ntmps62
  go_wp2_with (fail)
  refine HI.out.mono ?_
  rintro e w1 ⟨rfl, hw1⟩
  rw [hw1]
  clear hw1
  go_wp2_with (fail)
  refine HFl.out.mono ?_
  rintro e w1 ⟨rfl, hw1⟩
  rw [hw1]
  clear hw1
  go_wp2_with (fail)
  simp [bodyPostD, Leaves, settle, results, Try.results62, go_sem]
  exact k0
set_option maxRecDepth 100000 in
set_option maxHeartbeats 4000000 in
theorem nextL_no {w : World} {r fv : Value} (h : NoRd w r) :
    Calls Try.prog 62 #[r, fv] w fun e w' => e = .returned (.slice none 0 0) ∧ Ch No w w' := by
  obtain rfl | ⟨p, rfl⟩ : r = .pointer none ∨ ∃ p, r = .pointer (some ⟨p, 0, none⟩) := by
    rcases h with e | ⟨p, e, -⟩
    · exact .inl e
    · exact .inr ⟨p, e⟩
  · have k0 : Ch No w (w.alloc (.cells #[.pointer none] 41)) := Ch.new w _
    have HI := Lib.hid (is_no (h.no k0))
    have cq : (w.alloc (.cells #[.pointer none] 41)).cell? ⟨w.heap.size, 0, none⟩ = some (.pointer none) := by rw [World.cell?_alloc_at _ _ _ _ rfl]; rfl
    clear h
    go_enter_defers Try.func62, Try.ntmps62
    go_wp2_with (fail)
    refine HI.out.mono ?_
    rintro e w1 ⟨rfl, hw1⟩
    rw [hw1]
    clear hw1
    go_wp2_with (fail)
    simp [bodyPostD, Leaves, settle, results, Try.results62, go_sem]
    exact k0
  · have k0 : Ch No w (w.alloc (.cells #[.pointer (some ⟨p, 0, none⟩)] 41)) := Ch.new w _
    have HI := Lib.hid (is_no (h.no k0))
    have cq : (w.alloc (.cells #[.pointer (some ⟨p, 0, none⟩)] 41)).cell? ⟨w.heap.size, 0, none⟩ = some (.pointer (some ⟨p, 0, none⟩)) := by rw [World.cell?_alloc_at _ _ _ _ rfl]; rfl
    clear h
    go_enter_defers Try.func62, Try.ntmps62
    go_wp2_with (fail)
    refine HI.out.mono ?_
    rintro e w1 ⟨rfl, hw1⟩
    rw [hw1]
    clear hw1
    go_wp2_with (fail)
    simp [bodyPostD, Leaves, settle, results, Try.results62, go_sem]
    exact k0
end Go.Proofs.Ytocdjieaphkbdaa
