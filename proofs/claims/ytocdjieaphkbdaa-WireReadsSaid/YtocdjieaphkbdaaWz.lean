/- What the laws of wire share: the row's last step; rows of numbers among the arguments. -/
import Derived.Test.YtocdjieaphkbdaaWr
import Derived.Carry
import Derived.LaidSub
import Derived.ProofKit
import Derived.OpenShut
import Derived.Deep.Slices
namespace Go.Proofs.Ytocdjieaphkbdaa
open Go.Joins Go.Deep Go.ChangeShapes Go.WideShapes Go.ChangeAt Go.RowKit

theorem own : ownKnob Try.prog.godebug = none := by kernel_rfl
theorem laidOut : laidOutB Try.prog = true := by kernel_rfl
section
variable {H : Type} {enc : TypeId × Value → H}
/-- What was read of the arguments reads so behind the call. -/
theorem trodAll_later {W W' : World} (hb : Below W.heap.size W W') {sp : Nat → Bool} : ∀ {ts : List TypeId} {vs : List Value} {ds : List (DataW H)} {ps : List MemPlace},
    (∀ t ∈ ts, Try.prog.readableRec t = true ∧ t < Try.prog.types.size) → DataW.TrodAll enc Try.prog W 0 (fun _ => true) true ts vs ds ps → (∀ x ∈ ps, x.block < W.heap.size ∧ sp x.block = true) →
    DataW.TrodAll enc Try.prog W' 0 sp true ts vs ds ps
  | [], _, _, _, _, h, _ => by
    obtain ⟨rfl, rfl, rfl⟩ := trodAll_nil h
    exact trodAll_mk0
  | t :: ts, _, _, _, ht, h, hp => by
    obtain ⟨v, vs1, d, ds1, a, b, rfl, rfl, rfl, h1, h2⟩ := trodAll_cons h
    have k := ht t (List.mem_cons_self ..)
    exact trodAll_cons_mk (WideElems.Trod_stays laidOut k.1 k.2 h1 (fun x hx => hb.same (hp x (by simp [hx])).1) (fun x hx => (hp x (by simp [hx])).2))
      (trodAll_later hb (fun t' h' => ht t' (List.mem_cons_of_mem _ h')) h2 (fun x hx => hp x (by simp [hx])))
theorem law_true {f : Func} {s : ChangeSpec} {W W' : World} {args : Array Value} {ds gs : List (DataW H)} {before : List MemPlace}
    (hW : DataW.Whole enc Try.prog f.params.toList s.vars false W args.toList ds gs before) (hv : s.vars = []) (hg : gs = []) (ht : ∀ t ∈ f.params.toList, Try.prog.readableRec t = true ∧ t < Try.prog.types.size)
    (hr : f.resultTypes = #[4]) (hfn : s.fn H ds = { results := [.lit (.bool true)], args := ds }) (hb : Below W.heap.size W W') :
    s.post enc Try.prog f false true false false W args (.bool true) W' := by
  have hlt : ∀ x ∈ before, x.block < W.heap.size := fun x hx => hW.lt x hx
  have hW0 := hW
  subst hg
  obtain ⟨p, q, hA, hV, e, hfz, hnd⟩ := hW
  have hq : q = [] := by rw [hv] at hV; exact (trodVars_none hV).2
  subst hq
  rw [List.append_nil] at e
  subst e
  have e2 : ds ++ [] = ds := List.append_nil ds
  refine ⟨ds, [], before, [], before, [], hW0, ?_, ?_, ?_, hb.frame _, fun h => nomatch h⟩
  · rw [e2, hfn, hr]
    exact trodAll_cons_mk (shut_bool Try.underlying4 _) trodAll_mk0
  · rw [e2, hfn]
    exact trodAll_later hb ht hA fun x hx => ⟨hlt x hx, by simpa using hlt x hx⟩
  · rw [hv, e2, hfn]
    rfl
end
theorem cellsU8 : Try.prog.cellsOf 5 = 1 := by kernel_rfl
theorem cellsI : Try.prog.cellsOf 3 = 1 := by kernel_rfl
section
variable {H : Type} {enc : TypeId × Value → H}
/-- A slice of numbers that is read. -/
theorem rw_of_trod {W : World} {fuel : Nat} {TS T : TypeId} {K : IntKind} {x : Value} {d : DataW H × List MemPlace} (hT : Try.prog.underlying TS = some (.slice T)) (hE : Try.prog.underlying T = some (.int K)) (hC : Try.prog.cellsOf T = 1)
    (hf : DataW.trod enc Try.prog W 0 (fun _ => true) true fuel TS [x] = some d) :
    ∃ ds, Rw W (fun _ => True) K x ds ∧ ∀ z ∈ ds, K.min ≤ z ∧ z ≤ K.max := by
  rcases open_ints hT hE hC hf with ⟨e, -⟩ | ⟨a, len, cap, zs, e, -, hl, hm, hz, -, hc, hw⟩
  · simp only [List.cons.injEq, and_true] at e
    subst e
    exact ⟨[], Rw.nil_, fun z hz => by simp at hz⟩
  · simp only [List.cons.injEq, and_true] at e
    subst e
    have hlz : len ≤ zs.length := by rw [hz]; simpa using hl
    have hn : (zs.take len).length = len := by simp [hlz]
    refine ⟨zs.take len, ⟨some a, cap, by rw [hn], by rw [hn]; exact hl, fun e => (by cases e), fun h0 => ?_⟩, fun x hx => ?_⟩
    · rw [hn] at h0
      have c0 := hc 0 (by omega)
      have hs0 := World.cell?_spot c0
      have hlt := block_lt_of_cell c0
      obtain ⟨b, o, spot⟩ := a
      have hsp : spot = none := by simpa [Addr.add] using hs0
      subst hsp
      have hlt : b < W.heap.size := by simpa [Addr.add] using hlt
      refine ⟨b, o, rfl, trivial, hlt, fun k hk => ?_⟩
      rw [hn] at hk
      have := hc k (by omega)
      rw [Addr.add_mid] at this
      rw [this]
      unfold at_
      congr 2
      rw [List.getElem?_take_of_lt hk, List.getD_eq_getElem?_getD]
    · have := hw x (List.mem_of_mem_take hx)
      simp only [Lit.wf, Bool.and_eq_true, decide_eq_true_eq] at this
      exact this
/-- Bytes among the arguments. -/
theorem open_rw {W : World} {base : Nat} {v : Value} {d : DataW H} {p : List MemPlace} (hv : Value.okWide Try.prog W .any base 28 v) (h : DataW.Trod enc Try.prog W 0 (fun _ => true) true 28 v d p) :
    ∃ A n c ds, v = .slice A n c ∧ ds.length = n ∧ Rw W (fun _ => True) .u8 (.slice A n c) ds ∧ Bys8 ds := by
  obtain ⟨A, n, c, rfl⟩ := okWide_slice Try.underlying28 hv
  obtain ⟨fuel, hf⟩ := h
  obtain ⟨ds, h1, h2⟩ := rw_of_trod Try.underlying28 Try.underlying5 cellsU8 hf
  obtain ⟨A', c', e, -⟩ := h1.shape
  injection e with _ e2 _
  refine ⟨A, n, c, ds, rfl, e2.symm, h1, fun z hz => ?_⟩
  have := h2 z hz
  rw [show IntKind.u8.min = 0 by decide, show IntKind.u8.max = 255 by decide] at this
  exact ⟨this.1, by omega⟩
end
end Go.Proofs.Ytocdjieaphkbdaa
