/- What every law of this seat shares: the table that its row lists, the row's last step, the Ints among the arguments. An Int among a law's arguments, opened. -/
import Derived.Test.YtnkklmbmodkogaaDoorG9
import Derived.Test.YtnkklmbmodkogaaDoorCards
import Derived.Test.YtnkklmbmodkogaaDoorTie
import Derived.ProofKit
import Derived.OpenShut
import Derived.Carry
import Derived.LaidSub
import Derived.Deep.DeepHandedRow
import Derived.Lib.LaidTab
import Derived.Lib.SmallJoins
/-! Lw -/
namespace Go.Proofs.YtnkklmbmodkogaaDoor
open Go.ChangeShapes Go.WideShapes Go.ChangeAt Go.RowKit

theorem own : ownKnob Tryd.prog.godebug = none := by kernel_rfl
theorem laidOut : laidOutB Tryd.prog = true := by kernel_rfl

/-! ### The table -/
/-- The three tables that every row of this seat lists. -/
def tabs : List (String × DataW Unit) := [("math/bits.deBruijn32tab", Rows.laid_math_bits_deBruijn32tab), ("math/bits.deBruijn64tab", Rows.laid_math_bits_deBruijn64tab), ("internal/strconv.uint64pow10", Rows.laid_internal_strconv_uint64pow10)]
theorem gTens : Tryd.prog.globalNamed "internal/strconv.uint64pow10" = some 3 := by kernel_rfl
theorem gTensType : (Tryd.prog.globals[3]?).map (·.type) = some 131 := by kernel_rfl
theorem cellsA20 : Tryd.prog.cellsOf 131 = 20 := by kernel_rfl
theorem cellsU64 : Tryd.prog.cellsOf 54 = 1 := by kernel_rfl
theorem tensData : Rows.laid_internal_strconv_uint64pow10 (H := Unit) = Lib.tabData .u64 Lib.pow10Tab := rfl
theorem tens_of {W : World} (h : laidMetH Tryd.prog tabs W) : Tens W := by
  have h1 := h.filter (fun x => x.1 == "internal/strconv.uint64pow10")
  have e : tabs.filter (fun x => x.1 == "internal/strconv.uint64pow10") = [("internal/strconv.uint64pow10", Lib.tabData .u64 Lib.pow10Tab)] := by
    rw [← tensData]
    unfold tabs
    simp [List.filter]
  rw [e] at h1
  exact Lib.tabIs_of_head (rest := []) gTens gTensType Tryd.underlying131 Tryd.underlying54 cellsU64 cellsA20 h1

/-- A world for the witness: the settled one, the three tables as their initialisers lay them. -/
noncomputable def setTab (d : List Int) (k : IntKind) : Obj → Obj
  | .cells _ t frozen => .cells (d.map fun z => Value.int k z).toArray t frozen
  | o => o
def numsOf : DataW Unit → List Int
  | .agg l => l.map fun | .lit (.int _ z) => z | _ => 0
  | _ => []
noncomputable def laidWorld (os : Os) : World :=
  { World.holding Tryd.prog os ⟨#[], #[], []⟩ with heap := (((World.holding Tryd.prog os ⟨#[], #[], []⟩).heap.modify 3 (setTab (numsOf Rows.laid_internal_strconv_uint64pow10) .u64)).modify 4 (setTab (numsOf Rows.laid_math_bits_deBruijn32tab) .u8)).modify 5 (setTab (numsOf Rows.laid_math_bits_deBruijn64tab) .u8) }

/-! ### The row's last step -/
section
variable {H : Type} {enc : TypeId × Value → H}
/-- What was read of the arguments reads so behind the call. -/
theorem trodAll_later {W W' : World} (hb : Below W.heap.size W W') {sp : Nat → Bool} : ∀ {ts : List TypeId} {vs : List Value} {ds : List (DataW H)} {ps : List MemPlace},
    (∀ t ∈ ts, Tryd.prog.readableRec t = true ∧ t < Tryd.prog.types.size) → DataW.TrodAll enc Tryd.prog W 0 (fun _ => true) true ts vs ds ps → (∀ x ∈ ps, x.block < W.heap.size ∧ sp x.block = true) →
    DataW.TrodAll enc Tryd.prog W' 0 sp true ts vs ds ps
  | [], _, _, _, _, h, _ => by
    obtain ⟨rfl, rfl, rfl⟩ := trodAll_nil h
    exact trodAll_mk0
  | t :: ts, _, _, _, ht, h, hp => by
    obtain ⟨v, vs1, d, ds1, a, b, rfl, rfl, rfl, h1, h2⟩ := trodAll_cons h
    have k := ht t (List.mem_cons_self ..)
    exact trodAll_cons_mk (WideElems.Trod_stays laidOut k.1 k.2 h1 (fun x hx => hb.same (hp x (by simp [hx])).1) (fun x hx => (hp x (by simp [hx])).2))
      (trodAll_later hb (fun t' h' => ht t' (List.mem_cons_of_mem _ h')) h2 (fun x hx => hp x (by simp [hx])))
/-- A law that returned true and left what was there as it was. -/
theorem law_true {f : Func} {s : ChangeSpec} {W W' : World} {args : Array Value} {ds gs : List (DataW H)} {before : List MemPlace}
    (hW : DataW.Whole enc Tryd.prog f.params.toList s.vars false W args.toList ds gs before) (hv : s.vars = []) (hg : gs = []) (ht : ∀ t ∈ f.params.toList, Tryd.prog.readableRec t = true ∧ t < Tryd.prog.types.size)
    (hr : f.resultTypes = #[4]) (hfn : s.fn H ds = { results := [.lit (.bool true)], args := ds }) (hb : Below W.heap.size W W') :
    s.post enc Tryd.prog f false true false false W args (.bool true) W' := by
  have hlt : ∀ x ∈ before, x.block < W.heap.size := fun x hx => hW.lt x hx
  have hW0 := hW
  subst hg
  obtain ⟨p, q, hA, hV, e, hfz, hnd⟩ := hW
  have hq : q = [] := by rw [hv] at hV; exact (trodVars_none hV).2
  subst hq
  rw [List.append_nil] at e
  subst e
  have e2 : ds ++ [] = ds := List.append_nil ds
  refine ⟨ds, [], before, [], before, [], hW0, ?_, ?_, ?_, hb.frame _, fun h => nomatch h⟩
  · rw [e2, hfn, hr]
    exact trodAll_cons_mk (shut_bool Tryd.underlying4 _) trodAll_mk0
  · rw [e2, hfn]
    exact trodAll_later hb ht hA fun x hx => ⟨hlt x hx, by simpa using hlt x hx⟩
  · rw [hv, e2, hfn]
    rfl
end
end Go.Proofs.YtnkklmbmodkogaaDoor

/-! Lo -/
namespace Go.Proofs.YtnkklmbmodkogaaDoor
open Go.Joins Go.Deep Go.ChangeShapes Go.WideShapes Go.ChangeAt Go.RowKit

theorem cell_lt {w : World} {a : Addr} {v : Value} (h : w.cell? a = some v) : a.block < w.heap.size := by
  rcases Nat.lt_or_ge a.block w.heap.size with hl | hl
  · exact hl
  · have e : w.heap[a.block]? = none := Array.getElem?_eq_none hl
    unfold World.cell? at h
    rw [e] at h
    simp at h
theorem intFields : ∃ f0 f1 : Field, Tryd.prog.underlying 24 = some (.struct #[f0, f1]) ∧ f0.type = 4 ∧ f1.type = 22 ∧ oneCellFields Tryd.prog #[f0, f1] = true := by
  exact ⟨_, _, Tryd.underlying24, by kernel_rfl, by kernel_rfl, by kernel_rfl⟩
theorem cellsInt : Tryd.prog.cellsOf 24 = 2 := by kernel_rfl
theorem cellsU8 : Tryd.prog.cellsOf 5 = 1 := by kernel_rfl
section
variable {H : Type} {enc : TypeId × Value → H}
set_option maxRecDepth 100000 in
theorem open_Int {W : World} {base : Nat} {v : Value} {d : DataW H} {p : List MemPlace} (hv : Value.okWide Tryd.prog W .any base 24 v) (h : DataW.Trod enc Tryd.prog W 0 (fun _ => true) true 24 v d p) :
    ∃ f n u, RawIs W W.heap.size v f n u ∧ u < 256 ^ n := by
  obtain ⟨f0, f1, hs, e0, e1, hone⟩ := intFields
  obtain ⟨v0, v1, y0, y1, m, rfl, rfl, rfl, h0, h1⟩ := open_agg2 hs hone cellsInt hv h
  rw [e0] at h0
  rw [e1] at h1
  obtain ⟨f, e, -⟩ := DataW.trod_bool Tryd.underlying4 h0
  simp only [List.cons.injEq, and_true] at e
  subst e
  rcases open_ints Tryd.underlying22 Tryd.underlying5 cellsU8 h1 with ⟨e, -⟩ | ⟨a, len, cap, zs, e, -, hl, hm, hz, -, hc, hw⟩
  · simp only [List.cons.injEq, and_true] at e
    subst e
    exact ⟨f, 0, 0, ⟨none, 0, rfl, Nat.le_refl _, Nat.zero_le _, fun h => absurd h (by simp)⟩, by simp⟩
  · simp only [List.cons.injEq, and_true] at e
    subst e
    have hlz : len ≤ zs.length := by rw [hz]; simpa using hl
    have hb : Bytes (zs.take len) := fun x hx => by
      have := hw x (List.mem_of_mem_take hx)
      simp only [Lit.wf, Bool.and_eq_true, decide_eq_true_eq] at this
      rw [show IntKind.u8.min = 0 by decide, show IntKind.u8.max = 255 by decide] at this
      exact ⟨this.1, by omega⟩
    obtain ⟨u, hu, eu⟩ := be_surj (zs.take len) hb
    have hn : (zs.take len).length = len := by simp [hlz]
    rw [hn] at hu eu
    refine ⟨f, len, u, ⟨some a, cap, rfl, hl, hm, fun h0 => ?_⟩, hu⟩
    simp only [be_len] at h0
    have c0 := hc 0 (by omega)
    have hs0 := World.cell?_spot c0
    have hlt := cell_lt c0
    obtain ⟨b, o, spot⟩ := a
    have hsp : spot = none := by simpa [Addr.add] using hs0
    subst hsp
    refine ⟨b, o, rfl, by simpa [Addr.add] using hlt, fun k hk => ?_⟩
    simp only [be_len] at hk
    have := hc k (by omega)
    have e1 : (⟨b, o, none⟩ : Addr).add k = ⟨b, o + k, none⟩ := by unfold Addr.add; split <;> simp_all
    rw [e1] at this
    rw [this, ← eu]
    congr 2
    rw [List.getElem?_take_of_lt hk, List.getD_eq_getElem?_getD]
end
end Go.Proofs.YtnkklmbmodkogaaDoor
