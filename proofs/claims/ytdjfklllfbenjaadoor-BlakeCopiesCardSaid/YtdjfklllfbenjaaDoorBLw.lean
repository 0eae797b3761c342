/- What every law of this seat shares: the tables that its row lists, the row's last step, the bytes among the arguments. -/
import Derived.Test.YtdjfklllfbenjaaDoorBo
import Derived.Test.YtdjfklllfbenjaaDoorCards
import Derived.Test.YtdjfklllfbenjaaDoorTie
import Derived.ProofKit
import Derived.OpenShut
import Derived.Carry
import Derived.LaidSub
import Derived.Deep.DeepHandedRow
import Derived.Lib.LaidTab
import Derived.Lib.SmallJoins
namespace Go.Proofs.YtdjfklllfbenjaaDoor
open Go.Joins Go.Deep Go.ChangeShapes Go.WideShapes Go.ChangeAt Go.RowKit

theorem own : ownKnob Tryd.prog.godebug = none := by kernel_rfl
theorem laidOut : laidOutB Tryd.prog = true := by kernel_rfl

/-! ### The tables -/
def tabs : List (String × DataW Unit) := [("bandplan/blake.initialWords", Rows.laid_bandplan_blake_initialWords), ("bandplan/blake.rows", Rows.laid_bandplan_blake_rows)]
theorem gInit : Tryd.prog.globalNamed "bandplan/blake.initialWords" = some 0 := by kernel_rfl
theorem gInitType : (Tryd.prog.globals[0]?).map (·.type) = some 67 := by kernel_rfl
theorem gRows : Tryd.prog.globalNamed "bandplan/blake.rows" = some 1 := by kernel_rfl
theorem gRowsType : (Tryd.prog.globals[1]?).map (·.type) = some 87 := by kernel_rfl
theorem cells8 : Tryd.prog.cellsOf 67 = 8 := by kernel_rfl
theorem cells16b : Tryd.prog.cellsOf 86 = 16 := by kernel_rfl
theorem cellsRows : Tryd.prog.cellsOf 87 = 160 := by kernel_rfl
theorem cellsU32 : Tryd.prog.cellsOf 64 = 1 := by kernel_rfl
theorem cellsU8 : Tryd.prog.cellsOf 5 = 1 := by kernel_rfl
theorem initData : Rows.laid_bandplan_blake_initialWords (H := Unit) = Lib.tabData .u32 iv := rfl
theorem rowsData : Rows.laid_bandplan_blake_rows (H := Unit) = .agg ((List.range 10).map fun i => Lib.tabData .u8 (rowZ i)) := rfl
theorem at_allRows (i r : Nat) (hi : i < 10) (hr : r < 16) : allRows[16 * i + r]? = (rowZ i)[r]? := by
  have h : ∀ i : Fin 10, ∀ r : Fin 16, allRows[16 * i.val + r.val]? = (rowZ i.val)[r.val]? := by decide +kernel
  exact h ⟨i, hi⟩ ⟨r, hr⟩
theorem cells_of_rows {w : World} {base : Nat} {sp : Nat → Bool} {held : Bool} {fuel : Nat} {enc : TypeId × Value → Unit} {cs : List Value} {p : List MemPlace}
    (h : DataW.trod enc Tryd.prog w base sp held fuel 87 cs = some (.agg ((List.range 10).map fun i => Lib.tabData .u8 (rowZ i)), p)) : cs = allRows.map (Value.int .u8) := by
  cases fuel with
  | zero => simp [DataW.trod] at h
  | succ fuel =>
    simp only [DataW.trod, Tryd.underlying87, cells16b, cellsRows] at h
    split at h
    · rename_i hl
      obtain ⟨xs, hm, hx⟩ := Option.map_eq_some_iff.1 h
      have hxs : xs.map (·.1) = (List.range 10).map fun i => (Lib.tabData .u8 (rowZ i) : DataW Unit) := by
        have := congrArg Prod.fst hx
        simpa using this
      apply List.ext_getElem?
      intro j
      by_cases hj : j < 160
      · have hi : j / 16 < 10 := by omega
        obtain ⟨b, hb, hf⟩ := Lib.mapM_at hm (j / 16) (j / 16) (by simp [hi])
        have hb1 : b.1 = Lib.tabData .u8 (rowZ (j / 16)) := by
          have h2 : (xs.map (·.1))[j / 16]? = some b.1 := by simp [hb]
          rw [hxs] at h2
          simpa [hi] using h2.symm
        obtain ⟨b1, b2⟩ := b
        subst hb1
        have hc := Lib.cells_of_tab Tryd.underlying86 Tryd.underlying5 cellsU8 cells16b hf
        have h3 := congrArg (·[j % 16]?) hc
        simp only [List.getElem?_map] at h3
        rw [List.getElem?_take_of_lt (by omega), List.getElem?_drop] at h3
        rw [show j / 16 * 16 + j % 16 = j by omega] at h3
        rw [h3, List.getElem?_map, ← at_allRows (j / 16) (j % 16) hi (by omega), show 16 * (j / 16) + j % 16 = j by omega]
      · have e : (allRows.map (Value.int .u8)).length = 160 := by rw [List.length_map]; decide +kernel
        rw [List.getElem?_eq_none (by omega), List.getElem?_eq_none (by omega)]
    · cases h
theorem tabs_of {W : World} (h : laidMetH Tryd.prog tabs W) : Tabs W := by
  constructor
  · have h1 := h.filter (fun x => x.1 == "bandplan/blake.initialWords")
    have e : tabs.filter (fun x => x.1 == "bandplan/blake.initialWords") = [("bandplan/blake.initialWords", Lib.tabData .u32 iv)] := by
      rw [← initData]
      unfold tabs
      simp [List.filter]
    rw [e] at h1
    have h2 := Lib.tabIs_of_head (rest := []) gInit gInitType Tryd.underlying67 Tryd.underlying64 cellsU32 cells8 h1
    unfold Lib.TabIs World.var? at h2
    rw [gInit] at h2
    simp only [Option.bind_some] at h2
    split at h2
    · rename_i cs t fr e
      injection h2 with h2
      subst h2
      exact ⟨t, fr, e⟩
    · cases h2
  · have h1 := h.filter (fun x => x.1 == "bandplan/blake.rows")
    have e : tabs.filter (fun x => x.1 == "bandplan/blake.rows") = [("bandplan/blake.rows", Rows.laid_bandplan_blake_rows)] := by
      unfold tabs
      simp [List.filter]
    rw [e] at h1
    obtain ⟨ps, ⟨g', t', cs, fuel, p, q, hg', ht', hvar, hd, _, _⟩, _⟩ := h1
    obtain rfl := Option.some.inj (gRows.symm.trans hg')
    obtain rfl := Option.some.inj (gRowsType.symm.trans ht')
    rw [rowsData] at hd
    have hc := cells_of_rows hd
    unfold World.var? at hvar
    rw [gRows] at hvar
    simp only [Option.bind_some] at hvar
    split at hvar
    · rename_i cs' t fr e
      injection hvar with hvar
      subst hvar
      refine ⟨t, fr, ?_⟩
      rw [e]
      congr 2
      apply Array.ext'
      rw [hc]
      rfl
    · cases hvar

/-- A world for the witness: the settled one, the tables as their initialisers lay them. -/
noncomputable def setTab (vs : Array Value) : Obj → Obj
  | .cells _ t frozen => .cells vs t frozen
  | o => o
noncomputable def laidWorld (os : Os) : World :=
  { World.holding Tryd.prog os ⟨#[], #[], []⟩ with heap := ((World.holding Tryd.prog os ⟨#[], #[], []⟩).heap.modify 0 (setTab (u32s iv))).modify 1 (setTab (u8s allRows)) }

/-! ### The row's last step -/
section
variable {H : Type} {enc : TypeId × Value → H}
/-- What was read of the arguments reads so behind the call. -/
theorem trodAll_later {W W' : World} (hb : Below W.heap.size W W') {sp : Nat → Bool} : ∀ {ts : List TypeId} {vs : List Value} {ds : List (DataW H)} {ps : List MemPlace},
    (∀ t ∈ ts, Tryd.prog.readableRec t = true ∧ t < Tryd.prog.types.size) → DataW.TrodAll enc Tryd.prog W 0 (fun _ => true) true ts vs ds ps → (∀ x ∈ ps, x.block < W.heap.size ∧ sp x.block = true) →
    DataW.TrodAll enc Tryd.prog W' 0 sp true ts vs ds ps
  | [], _, _, _, _, h, _ => by
    obtain ⟨rfl, rfl, rfl⟩ := trodAll_nil h
    exact trodAll_mk0
  | t :: ts, _, _, _, ht, h, hp => by
    obtain ⟨v, vs1, d, ds1, a, b, rfl, rfl, rfl, h1, h2⟩ := trodAll_cons h
    have k := ht t (List.mem_cons_self ..)
    exact trodAll_cons_mk (WideElems.Trod_stays laidOut k.1 k.2 h1 (fun x hx => hb.same (hp x (by simp [hx])).1) (fun x hx => (hp x (by simp [hx])).2))
      (trodAll_later hb (fun t' h' => ht t' (List.mem_cons_of_mem _ h')) h2 (fun x hx => hp x (by simp [hx])))
/-- A law that returned true and left what was there as it was. -/
theorem law_true {f : Func} {s : ChangeSpec} {W W' : World} {args : Array Value} {ds gs : List (DataW H)} {before : List MemPlace}
    (hW : DataW.Whole enc Tryd.prog f.params.toList s.vars false W args.toList ds gs before) (hv : s.vars = []) (hg : gs = []) (ht : ∀ t ∈ f.params.toList, Tryd.prog.readableRec t = true ∧ t < Tryd.prog.types.size)
    (hr : f.resultTypes = #[4]) (hfn : s.fn H ds = { results := [.lit (.bool true)], args := ds }) (hb : Below W.heap.size W W') :
    s.post enc Tryd.prog f false true false false W args (.bool true) W' := by
  have hlt : ∀ x ∈ before, x.block < W.heap.size := fun x hx => hW.lt x hx
  have hW0 := hW
  subst hg
  obtain ⟨p, q, hA, hV, e, hfz, hnd⟩ := hW
  have hq : q = [] := by rw [hv] at hV; exact (trodVars_none hV).2
  subst hq
  rw [List.append_nil] at e
  subst e
  have e2 : ds ++ [] = ds := List.append_nil ds
  refine ⟨ds, [], before, [], before, [], hW0, ?_, ?_, ?_, hb.frame _, fun h => nomatch h⟩
  · rw [e2, hfn, hr]
    exact trodAll_cons_mk (shut_bool Tryd.underlying4 _) trodAll_mk0
  · rw [e2, hfn]
    exact trodAll_later hb ht hA fun x hx => ⟨hlt x hx, by simpa using hlt x hx⟩
  · rw [hv, e2, hfn]
    rfl
end

/-! ### Bytes among the arguments -/
section
variable {H : Type} {enc : TypeId × Value → H}
theorem open_bytes {W : World} {base : Nat} {v : Value} {d : DataW H} {p : List MemPlace} (hv : Value.okWide Tryd.prog W .any base 22 v) (h : DataW.Trod enc Tryd.prog W 0 (fun _ => true) true 22 v d p) :
    ∃ A n c ds, v = .slice A n c ∧ ds.length = n ∧ PartAt W W.heap.size (.slice A n c) ds ∧ (∀ x ∈ ds, 0 ≤ x ∧ x < (256 : Int)) ∧ n ≤ maxLen := by
  obtain ⟨A, n, c, rfl⟩ := okWide_slice Tryd.underlying22 hv
  obtain ⟨fuel, hf⟩ := h
  rcases open_ints Tryd.underlying22 Tryd.underlying5 cellsU8 hf with ⟨e, -⟩ | ⟨a, len, cap, zs, e, -, hl, hm, hz, -, hc, hw⟩
  · simp only [Value.cells, List.cons.injEq, and_true] at e
    obtain ⟨rfl, rfl, rfl⟩ : A = none ∧ n = 0 ∧ c = 0 := by simpa using e
    exact ⟨none, 0, 0, [], rfl, rfl, PartAt.nil_ _ _, fun x hx => by simp at hx, Nat.zero_le _⟩
  · obtain ⟨rfl, rfl, rfl⟩ : A = some a ∧ n = len ∧ c = cap := by simpa [Value.cells] using e
    have hlz : n ≤ zs.length := by rw [hz]; simpa using hl
    have hb : ∀ x ∈ zs.take n, 0 ≤ x ∧ x < (256 : Int) := fun x hx => by
      have := hw x (List.mem_of_mem_take hx)
      simp only [Lit.wf, Bool.and_eq_true, decide_eq_true_eq] at this
      rw [show IntKind.u8.min = 0 by decide, show IntKind.u8.max = 255 by decide] at this
      exact ⟨this.1, by omega⟩
    have hn : (zs.take n).length = n := by simp [hlz]
    refine ⟨some a, n, c, zs.take n, rfl, hn, ⟨some a, c, by rw [hn], by rw [hn]; exact hl, fun h0 => ?_⟩, hb, Nat.le_trans hl hm⟩
    rw [hn] at h0
    have c0 := hc 0 (by omega)
    have hs0 := World.cell?_spot c0
    have hlt := block_lt_of_cell c0
    obtain ⟨b, o, spot⟩ := a
    have hsp : spot = none := by simpa [Addr.add] using hs0
    subst hsp
    have hlt : b < W.heap.size := by simpa [Addr.add] using hlt
    refine ⟨b, o, rfl, by omega, hlt, fun k hk => ?_⟩
    rw [hn] at hk
    have := hc k (by omega)
    rw [Addr.add_mid] at this
    rw [this]
    unfold at_
    congr 2
    rw [List.getElem?_take_of_lt hk, List.getD_eq_getElem?_getD]
end
end Go.Proofs.YtdjfklllfbenjaaDoor
