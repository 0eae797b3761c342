/- What every law of this seat shares: the table that its row lists, the row's last step, the Ints among the arguments. -/
import Derived.Test.YtkofhjjfngnmmaaDoorG9
import Derived.Test.YtkofhjjfngnmmaaDoorCards
import Derived.Test.YtkofhjjfngnmmaaDoorTie
import Derived.ProofKit
import Derived.OpenShut
import Derived.Carry
import Derived.LaidSub
import Derived.Deep.DeepHandedRow
import Derived.Lib.LaidTab
/-! Lw -/
namespace Go.Proofs.YtkofhjjfngnmmaaDoor
open Go.ChangeShapes Go.WideShapes Go.ChangeAt Go.RowKit

theorem own : ownKnob Tryd.prog.godebug = none := by kernel_rfl
theorem laidOut : laidOutB Tryd.prog = true := by kernel_rfl

/-! ### The table -/
/-- The three tables that every row of this seat lists. -/
def tabs : List (String × DataW Unit) := [("math/bits.deBruijn32tab", Rows.laid_math_bits_deBruijn32tab), ("math/bits.deBruijn64tab", Rows.laid_math_bits_deBruijn64tab), ("internal/strconv.uint64pow10", Rows.laid_internal_strconv_uint64pow10)]
theorem gTens : Tryd.prog.globalNamed "internal/strconv.uint64pow10" = some 3 := by kernel_rfl
theorem gTensType : (Tryd.prog.globals[3]?).map (·.type) = some 131 := by kernel_rfl
theorem cellsA20 : Tryd.prog.cellsOf 131 = 20 := by kernel_rfl
theorem cellsU64 : Tryd.prog.cellsOf 54 = 1 := by kernel_rfl
theorem tensData : Rows.laid_internal_strconv_uint64pow10 (H := Unit) = Lib.tabData .u64 Lib.pow10Tab := rfl
theorem tens_of {W : World} (h : laidMetH Tryd.prog tabs W) : Tens W := by
  have h1 := h.filter (fun x => x.1 == "internal/strconv.uint64pow10")
  have e : tabs.filter (fun x => x.1 == "internal/strconv.uint64pow10") = [("internal/strconv.uint64pow10", Lib.tabData .u64 Lib.pow10Tab)] := by
    rw [← tensData]
    unfold tabs
    simp [List.filter]
  rw [e] at h1
  exact Lib.tabIs_of_head (rest := []) gTens gTensType Tryd.underlying131 Tryd.underlying54 cellsU64 cellsA20 h1

/-- A world for the witness: the settled one, the three tables as their initialisers lay them. -/
noncomputable def setTab (d : List Int) (k : IntKind) : Obj → Obj
  | .cells _ t frozen => .cells (d.map fun z => Value.int k z).toArray t frozen
  | o => o
def numsOf : DataW Unit → List Int
  | .agg l => l.map fun | .lit (.int _ z) => z | _ => 0
  | _ => []
noncomputable def laidWorld (os : Os) : World :=
  { World.holding Tryd.prog os ⟨#[], #[], []⟩ with heap := (((World.holding Tryd.prog os ⟨#[], #[], []⟩).heap.modify 3 (setTab (numsOf Rows.laid_internal_strconv_uint64pow10) .u64)).modify 4 (setTab (numsOf Rows.laid_math_bits_deBruijn32tab) .u8)).modify 5 (setTab (numsOf Rows.laid_math_bits_deBruijn64tab) .u8) }

/-! ### The row's last step -/
section
variable {H : Type} {enc : TypeId × Value → H}
/-- What was read of the arguments reads so behind the call. -/
theorem trodAll_later {W W' : World} (hb : Below W.heap.size W W') {sp : Nat → Bool} : ∀ {ts : List TypeId} {vs : List Value} {ds : List (DataW H)} {ps : List MemPlace},
    (∀ t ∈ ts, Tryd.prog.readableRec t = true ∧ t < Tryd.prog.types.size) → DataW.TrodAll enc Tryd.prog W 0 (fun _ => true) true ts vs ds ps → (∀ x ∈ ps, x.block < W.heap.size ∧ sp x.block = true) →
    DataW.TrodAll enc Tryd.prog W' 0 sp true ts vs ds ps
  | [], _, _, _, _, h, _ => by
    obtain ⟨rfl, rfl, rfl⟩ := trodAll_nil h
    exact trodAll_mk0
  | t :: ts, _, _, _, ht, h, hp => by
    obtain ⟨v, vs1, d, ds1, a, b, rfl, rfl, rfl, h1, h2⟩ := trodAll_cons h
    have k := ht t (List.mem_cons_self ..)
    exact trodAll_cons_mk (WideElems.Trod_stays laidOut k.1 k.2 h1 (fun x hx => hb.same (hp x (by simp [hx])).1) (fun x hx => (hp x (by simp [hx])).2))
      (trodAll_later hb (fun t' h' => ht t' (List.mem_cons_of_mem _ h')) h2 (fun x hx => hp x (by simp [hx])))
/-- A law that returned true and left what was there as it was. -/
theorem law_true {f : Func} {s : ChangeSpec} {W W' : World} {args : Array Value} {ds gs : List (DataW H)} {before : List MemPlace}
    (hW : DataW.Whole enc Tryd.prog f.params.toList s.vars false W args.toList ds gs before) (hv : s.vars = []) (hg : gs = []) (ht : ∀ t ∈ f.params.toList, Tryd.prog.readableRec t = true ∧ t < Tryd.prog.types.size)
    (hr : f.resultTypes = #[4]) (hfn : s.fn H ds = { results := [.lit (.bool true)], args := ds }) (hb : Below W.heap.size W W') :
    s.post enc Tryd.prog f false true false false W args (.bool true) W' := by
  have hlt : ∀ x ∈ before, x.block < W.heap.size := fun x hx => hW.lt x hx
  have hW0 := hW
  subst hg
  obtain ⟨p, q, hA, hV, e, hfz, hnd⟩ := hW
  have hq : q = [] := by rw [hv] at hV; exact (trodVars_none hV).2
  subst hq
  rw [List.append_nil] at e
  subst e
  have e2 : ds ++ [] = ds := List.append_nil ds
  refine ⟨ds, [], before, [], before, [], hW0, ?_, ?_, ?_, hb.frame _, fun h => nomatch h⟩
  · rw [e2, hfn, hr]
    exact trodAll_cons_mk (shut_bool Tryd.underlying4 _) trodAll_mk0
  · rw [e2, hfn]
    exact trodAll_later hb ht hA fun x hx => ⟨hlt x hx, by simpa using hlt x hx⟩
  · rw [hv, e2, hfn]
    rfl
end
end Go.Proofs.YtkofhjjfngnmmaaDoor
