/- Package seal: the key stream. -/
import Derived.Test.YtdjfklllfbenjaaDoorEb
import Derived.Test.YtdjfklllfbenjaaDoorBr4
namespace Go.Proofs.YtdjfklllfbenjaaDoor
open Go.RowKit

/-! ### Rows of the call's own: a store -/
theorem Own.len_eq {w : World} {B g n c : Nat} {ds : List Int} (h : Own w B (.slice (some ⟨g, 0, none⟩) n c) ds) : n = ds.length := by
  rcases h.2 with ⟨e, _⟩ | ⟨_, _, _, e, _⟩
  · simp at e
  · injection e
theorem Own.set_ {w : World} {B g n c j : Nat} {ds : List Int} (h : Own w B (.slice (some ⟨g, 0, none⟩) n c) ds) (y : Int) : Own (w.setCell ⟨g, j, none⟩ (.int .u8 y)) B (.slice (some ⟨g, 0, none⟩) n c) (ds.set j y) := by
  obtain rfl := h.len_eq
  have := (World.ownsRow.stored h j (.int .u8 y)).1
  unfold Own
  simpa [List.map_set] using this
theorem Own.cellAt {w : World} {B g n c j : Nat} {ds : List Int} (h : Own w B (.slice (some ⟨g, 0, none⟩) n c) ds) (hj : j < ds.length) : w.cell? ⟨g, j, none⟩ = some (.int .u8 (at_ ds j)) := by
  obtain rfl := h.len_eq
  rw [World.ownsRow.cellAt h j (by omega)]
  simp [at_, hj]
theorem Own.freeAt {w : World} {B g n c : Nat} {ds : List Int} (h : Own w B (.slice (some ⟨g, 0, none⟩) n c) ds) (j : Nat) : w.frozen? ⟨g, j, none⟩ = false := by
  rcases h.2 with ⟨e, _⟩ | ⟨g', cap, cur, e, hb, hg, _⟩
  · simp at e
  · have : g = g' := by simp at e; exact e.1
    subst this
    simp [World.frozen?, hg]
theorem Own.base {w : World} {B g n c : Nat} {ds : List Int} (h : Own w B (.slice (some ⟨g, 0, none⟩) n c) ds) : B ≤ g ∧ g < w.heap.size := by
  rcases h.2 with ⟨e, _⟩ | ⟨g', cap, cur, e, hb, hg, _⟩
  · simp at e
  · have : g = g' := by simp at e; exact e.1
    subst this
    exact ⟨hb, (Array.getElem?_eq_some_iff.1 hg).1⟩
theorem Own.shape {w : World} {B : Nat} {v : Value} {ds : List Int} (h : Own w B v ds) : ∃ A c, v = .slice A ds.length c ∧ (A = none → c = 0) := by
  rcases h.2 with ⟨rfl, h0⟩ | ⟨g', cap, cur, rfl, _⟩
  · exact ⟨none, 0, by rw [h0], fun _ => rfl⟩
  · exact ⟨_, cap, rfl, fun e => by cases e⟩
theorem Own.shape1 {w : World} {B : Nat} {v : Value} {ds : List Int} (h : Own w B v ds) (h0 : 0 < ds.length) : ∃ g c, v = .slice (some ⟨g, 0, none⟩) ds.length c := by
  rcases h.2 with ⟨rfl, h1⟩ | ⟨g', cap, cur, rfl, _⟩
  · omega
  · exact ⟨g', cap, rfl⟩
def lenW (v : Value) : Nat := match v with | .slice _ k _ => k | _ => 0
theorem PartAt.some_ {w : World} {p : Nat} {A : Option Addr} {n c : Nat} {ds : List Int} (h : PartAt w p (.slice A n c) ds) (h0 : 0 < ds.length) : A = none → c = 0 := by
  obtain ⟨A', c', e, hle, hA⟩ := h
  obtain ⟨b, o, e2, _⟩ := hA h0
  simp at e
  intro e3
  rw [e.1, e2] at e3
  cases e3
theorem beAt_1 (i : Nat) (q : Nat) (x : Int) (h : x = ((i / q : Nat) : Int)) : IntKind.u8.wrap x = ((i / q % 256 : Nat) : Int) := by
  subst h
  rw [IntKind.wrap_u8']
  omega
set_option maxRecDepth 100000 in
set_option maxHeartbeats 4000000 in
/-- counted: the nonce, and the number of a block in eight bytes. -/
theorem counted_any (B : Option Addr) (m cb i : Nat) (nd : List Int) (w : World) (hm : nd.length = m) (h1 : 0 < m) (h2 : m < 1000) (hb : PartAt w w.heap.size (.slice B m cb) nd) (hi : i < 1000000) :
    Calls Tryd.prog 56 #[.slice B m cb, .int .u64 i] w fun e w' => (∃ v, e = .returned v ∧ Own w' w.heap.size v (nd ++ be8 i)) ∧ Below w.heap.size w w' := by
  have HB := Lib.hid hb
  have HM := Lib.hid hm
  have HA := Lib.hid (hb.some_ (by omega))
  have HI := Lib.hid hi
  clear hb hm hi
  go_enter Tryd.func56, Tryd.ntmps56
  go_upto_region 2 with (refine makeB0 rfl _ _ _ rfl Tryd.underlying22 24 _ rfl rfl rfl (by omega) ?_; intro w1 o1 b1 s1)
  have HB1 := Lib.hid (HB.out.later b1 (Nat.le_of_lt s1))
  have O1 := Lib.hid o1
  have B1 := Lib.hid b1
  clear o1 b1 HB
  go_wp2_with (at_builtin; refine appBs rfl _ _ _ rfl Tryd.underlying22 rfl O1.out B1.out (Nat.le_of_lt s1) B m cb w1.heap.size nd rfl HA.out HB1.out HM.out (by simp; omega) ?_; intro v2 w2 o2 b2 k2)
  have O2 : Hid (Own w2 w.heap.size v2 (nd ++ (List.range 0).map (beAt i))) := Lib.hid (by simpa using o2)
  have B2 := Lib.hid b2
  clear o2 b2 k2 O1 B1 HB1 s1
  go_wp2_with (fail)
  go_loopw [5, 6] (fun v k wx => ∃ j : Nat, j ≤ 8 ∧ k = .int .i64 (7 - (j : Int)) ∧ Hid (Own wx w.heap.size v (nd ++ (List.range j).map (beAt i))) ∧ Hid (Below w.heap.size w wx)) (fun _ k _ => (intOf k + 1).toNat)
  case atStart => exact ⟨0, by omega, rfl, O2, B2⟩
  case round =>
    obtain ⟨j, hj, rfl, ho, hbl⟩ := hrel
    clear O2 B2
    obtain ⟨A1, c1, rfl, -⟩ := ho.out.shape
    have L1 : (nd ++ (List.range j).map (beAt i)).length = m + j := by rw [List.length_append, HM.out]; simp
    rw [L1]
    rw [L1] at ho
    have HL1 := Lib.hid L1
    have hsz : w.heap.size ≤ wr.heap.size := hbl.out.size
    have HOA : Hid (∀ z, Own (wr.alloc (.cells #[.int .u8 z] 5)) w.heap.size (.slice A1 (m + j) c1) (nd ++ (List.range j).map (beAt i))) := Lib.hid fun z => ho.out.keep (fun g hg => Below.heap_alloc wr (.cells #[.int .u8 z] 5) g hg)
    have HBA : Hid (∀ z, Below w.heap.size w (wr.alloc (.cells #[.int .u8 z] 5))) := Lib.hid fun z => hbl.out.alloc hsz (.cells #[.int .u8 z] 5)
    clear L1
    rcases (by omega : j = 8 ∨ j = 0 ∨ j = 1 ∨ j = 2 ∨ j = 3 ∨ j = 4 ∨ j = 5 ∨ j = 6 ∨ j = 7) with rfl | rfl | rfl | rfl | rfl | rfl | rfl | rfl | rfl
    · have HO : Hid (Own wr w.heap.size (.slice A1 (m + 8) c1) (nd ++ be8 i)) := ho
      clear ho HOA HBA HL1 hsz
      go_wp2_with (fail)
      go_ret
      exact ⟨⟨_, rfl, HO.out⟩, hbl.out⟩
    · have HV : Hid ((i : Int) / 72057594037927936 % 256 = beAt i 0) := Lib.hid (by show _ = ((i / 72057594037927936 % 256 : Nat) : Int); omega)
      clear ho
      go_wp2_with (at_builtin; refine app1 rfl _ _ _ rfl Tryd.underlying22 rfl (HOA.out _) (HBA.out _) ?c1 wr.heap.size ((i : Int) / 72057594037927936 % 256) rfl ?c2 ?c3 ?_)
      case c1 => simp; omega
      case c2 => rw [World.cell?_alloc_at _ _ _ _ rfl]; rfl
      case c3 => rw [HL1.out]; omega
      intro x' w3 hown1 hbl1
      rw [HV.out] at hown1
      have HO3 : Hid (Own w3 w.heap.size x' (nd ++ (List.range 1).map (beAt i))) := Lib.hid hown1
      have HB3 := Lib.hid hbl1
      clear hown1 hbl1 HOA HBA hsz hbl
      go_wp2_with (fail)
      go_roundw
      case rel => exact ⟨1, by omega, by go_num, HO3, HB3⟩
      case measure => simp [intOf]
    · have HV : Hid ((i : Int) / 281474976710656 % 256 = beAt i 1) := Lib.hid (by show _ = ((i / 281474976710656 % 256 : Nat) : Int); omega)
      clear ho
      go_wp2_with (at_builtin; refine app1 rfl _ _ _ rfl Tryd.underlying22 rfl (HOA.out _) (HBA.out _) ?c1 wr.heap.size ((i : Int) / 281474976710656 % 256) rfl ?c2 ?c3 ?_)
      case c1 => simp; omega
      case c2 => rw [World.cell?_alloc_at _ _ _ _ rfl]; rfl
      case c3 => rw [HL1.out]; omega
      intro x' w3 hown1 hbl1
      rw [HV.out] at hown1
      have HO3 : Hid (Own w3 w.heap.size x' (nd ++ (List.range 2).map (beAt i))) := Lib.hid hown1
      have HB3 := Lib.hid hbl1
      clear hown1 hbl1 HOA HBA hsz hbl
      go_wp2_with (fail)
      go_roundw
      case rel => exact ⟨2, by omega, by go_num, HO3, HB3⟩
      case measure => simp [intOf]
    · have HV : Hid ((i : Int) / 1099511627776 % 256 = beAt i 2) := Lib.hid (by show _ = ((i / 1099511627776 % 256 : Nat) : Int); omega)
      clear ho
      go_wp2_with (at_builtin; refine app1 rfl _ _ _ rfl Tryd.underlying22 rfl (HOA.out _) (HBA.out _) ?c1 wr.heap.size ((i : Int) / 1099511627776 % 256) rfl ?c2 ?c3 ?_)
      case c1 => simp; omega
      case c2 => rw [World.cell?_alloc_at _ _ _ _ rfl]; rfl
      case c3 => rw [HL1.out]; omega
      intro x' w3 hown1 hbl1
      rw [HV.out] at hown1
      have HO3 : Hid (Own w3 w.heap.size x' (nd ++ (List.range 3).map (beAt i))) := Lib.hid hown1
      have HB3 := Lib.hid hbl1
      clear hown1 hbl1 HOA HBA hsz hbl
      go_wp2_with (fail)
      go_roundw
      case rel => exact ⟨3, by omega, by go_num, HO3, HB3⟩
      case measure => simp [intOf]
    · have HV : Hid ((i : Int) / 4294967296 % 256 = beAt i 3) := Lib.hid (by show _ = ((i / 4294967296 % 256 : Nat) : Int); omega)
      clear ho
      go_wp2_with (at_builtin; refine app1 rfl _ _ _ rfl Tryd.underlying22 rfl (HOA.out _) (HBA.out _) ?c1 wr.heap.size ((i : Int) / 4294967296 % 256) rfl ?c2 ?c3 ?_)
      case c1 => simp; omega
      case c2 => rw [World.cell?_alloc_at _ _ _ _ rfl]; rfl
      case c3 => rw [HL1.out]; omega
      intro x' w3 hown1 hbl1
      rw [HV.out] at hown1
      have HO3 : Hid (Own w3 w.heap.size x' (nd ++ (List.range 4).map (beAt i))) := Lib.hid hown1
      have HB3 := Lib.hid hbl1
      clear hown1 hbl1 HOA HBA hsz hbl
      go_wp2_with (fail)
      go_roundw
      case rel => exact ⟨4, by omega, by go_num, HO3, HB3⟩
      case measure => simp [intOf]
    · have HV : Hid ((i : Int) / 16777216 % 256 = beAt i 4) := Lib.hid (by show _ = ((i / 16777216 % 256 : Nat) : Int); omega)
      clear ho
      go_wp2_with (at_builtin; refine app1 rfl _ _ _ rfl Tryd.underlying22 rfl (HOA.out _) (HBA.out _) ?c1 wr.heap.size ((i : Int) / 16777216 % 256) rfl ?c2 ?c3 ?_)
      case c1 => simp; omega
      case c2 => rw [World.cell?_alloc_at _ _ _ _ rfl]; rfl
      case c3 => rw [HL1.out]; omega
      intro x' w3 hown1 hbl1
      rw [HV.out] at hown1
      have HO3 : Hid (Own w3 w.heap.size x' (nd ++ (List.range 5).map (beAt i))) := Lib.hid hown1
      have HB3 := Lib.hid hbl1
      clear hown1 hbl1 HOA HBA hsz hbl
      go_wp2_with (fail)
      go_roundw
      case rel => exact ⟨5, by omega, by go_num, HO3, HB3⟩
      case measure => simp [intOf]
    · have HV : Hid ((i : Int) / 65536 % 256 = beAt i 5) := Lib.hid (by show _ = ((i / 65536 % 256 : Nat) : Int); omega)
      clear ho
      go_wp2_with (at_builtin; refine app1 rfl _ _ _ rfl Tryd.underlying22 rfl (HOA.out _) (HBA.out _) ?c1 wr.heap.size ((i : Int) / 65536 % 256) rfl ?c2 ?c3 ?_)
      case c1 => simp; omega
      case c2 => rw [World.cell?_alloc_at _ _ _ _ rfl]; rfl
      case c3 => rw [HL1.out]; omega
      intro x' w3 hown1 hbl1
      rw [HV.out] at hown1
      have HO3 : Hid (Own w3 w.heap.size x' (nd ++ (List.range 6).map (beAt i))) := Lib.hid hown1
      have HB3 := Lib.hid hbl1
      clear hown1 hbl1 HOA HBA hsz hbl
      go_wp2_with (fail)
      go_roundw
      case rel => exact ⟨6, by omega, by go_num, HO3, HB3⟩
      case measure => simp [intOf]
    · have HV : Hid ((i : Int) / 256 % 256 = beAt i 6) := Lib.hid (by show _ = ((i / 256 % 256 : Nat) : Int); omega)
      clear ho
      go_wp2_with (at_builtin; refine app1 rfl _ _ _ rfl Tryd.underlying22 rfl (HOA.out _) (HBA.out _) ?c1 wr.heap.size ((i : Int) / 256 % 256) rfl ?c2 ?c3 ?_)
      case c1 => simp; omega
      case c2 => rw [World.cell?_alloc_at _ _ _ _ rfl]; rfl
      case c3 => rw [HL1.out]; omega
      intro x' w3 hown1 hbl1
      rw [HV.out] at hown1
      have HO3 : Hid (Own w3 w.heap.size x' (nd ++ (List.range 7).map (beAt i))) := Lib.hid hown1
      have HB3 := Lib.hid hbl1
      clear hown1 hbl1 HOA HBA hsz hbl
      go_wp2_with (fail)
      go_roundw
      case rel => exact ⟨7, by omega, by go_num, HO3, HB3⟩
      case measure => simp [intOf]
    · have HV : Hid ((i : Int) % 256 = beAt i 7) := Lib.hid (by show _ = ((i / 1 % 256 : Nat) : Int); omega)
      clear ho
      go_wp2_with (at_builtin; refine app1 rfl _ _ _ rfl Tryd.underlying22 rfl (HOA.out _) (HBA.out _) ?c1 wr.heap.size ((i : Int) % 256) rfl ?c2 ?c3 ?_)
      case c1 => simp; omega
      case c2 => rw [World.cell?_alloc_at _ _ _ _ rfl]; rfl
      case c3 => rw [HL1.out]; omega
      intro x' w3 hown1 hbl1
      rw [HV.out] at hown1
      have HO3 : Hid (Own w3 w.heap.size x' (nd ++ (List.range 8).map (beAt i))) := Lib.hid hown1
      have HB3 := Lib.hid hbl1
      clear hown1 hbl1 HOA HBA hsz hbl
      go_wp2_with (fail)
      go_roundw
      case rel => exact ⟨8, by omega, by go_num, HO3, HB3⟩
      case measure => simp [intOf]
end Go.Proofs.YtdjfklllfbenjaaDoor
