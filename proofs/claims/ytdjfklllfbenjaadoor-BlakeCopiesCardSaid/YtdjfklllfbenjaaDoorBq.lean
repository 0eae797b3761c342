/- The chapter's examples: known. -/
import Derived.Test.YtdjfklllfbenjaaDoorBp
import Derived.Test.YtdjfklllfbenjaaDoorBv
import Derived.Laws.AppendOwnNone
import Derived.Lib.SmallJoins
namespace Go.Proofs.YtdjfklllfbenjaaDoor
open Go.RowKit

/-- v is a slice of the call's own (blocks from B on) that holds the bytes ds. -/
def Own (w : World) (B : Nat) (v : Value) (ds : List Int) : Prop := w.ownsRow B 5 1 v ds.length (ds.map (Value.int .u8))
theorem Own.nil_ (w : World) (B : Nat) : Own w B (.slice none 0 0) [] := World.ownsRow_nil _ _ _ _
theorem Own.keep {w w' : World} {B : Nat} {v : Value} {ds : List Int} (h : Own w B v ds) (hk : ∀ g, g < w.heap.size → w'.heap[g]? = w.heap[g]?) : Own w' B v ds := by
  refine ⟨h.1, ?_⟩
  rcases h.2 with h2 | ⟨g, cap, cur, e, hb, hg, r⟩
  · exact .inl h2
  · exact .inr ⟨g, cap, cur, e, hb, (hk g (Array.getElem?_eq_some_iff.1 hg).1).trans hg, r⟩
theorem Own.below {w w' : World} {B : Nat} {v : Value} {ds : List Int} (h : Own w B v ds) (hb : Below w.heap.size w w') : Own w' B v ds := h.keep fun g hg => hb.block g hg
theorem Own.part {w : World} {B : Nat} {v : Value} {ds : List Int} (h : Own w B v ds) : PartAt w w.heap.size v ds := by
  rcases h.2 with ⟨rfl, h0⟩ | ⟨g, cap, cur, rfl, hb, hg, hnc, hm, hs, ht⟩
  · have : ds = [] := List.eq_nil_of_length_eq_zero h0
    subst this
    exact PartAt.nil_ _ _
  · have hl : g < w.heap.size := (Array.getElem?_eq_some_iff.1 hg).1
    refine ⟨_, cap, rfl, hnc, fun hn => ⟨g, 0, rfl, by omega, hl, fun k hk => ?_⟩⟩
    rw [cell_of_row w g (0 + k) cur 5 (0, 0) hg, ← Array.getElem?_toList]
    have h1 : (cur.toList.take (ds.length * 1))[0 + k]? = (ds.map (Value.int .u8))[0 + k]? := by rw [ht]
    rw [List.getElem?_take_of_lt (by omega)] at h1
    rw [h1]
    simp [at_, hk]
theorem app1 {ops : Array Oper} {rest : List Oper} {o : Oper} {a : Act} {Q : Exit → Act → World → Prop} {w W : World} {B : Nat} {v : Value} {ds : List Int}
    (hgd : o.guard = none) (s x : Operand) (T : TypeId) (ho : o.op = .call { callee := .builtin .append, args := #[s, x], argTypes := #[T, T] }) (hT : Tryd.prog.underlying T = some (.slice 5))
    (hs : a.eval s = v) (hown : Own w B v ds) (hb : Below B W w) (hB : B ≤ w.heap.size) (g : Nat) (y : Int) (hx : a.eval x = .slice (some ⟨g, 0, none⟩) 1 1) (hy : w.cell? ⟨g, 0, none⟩ = some (.int .u8 y))
    (hn : ds.length < 1000000000000) (h : ∀ v' w', Own w' B v' (ds ++ [y]) → Below B W w' → wpList Tryd.prog ops Q rest (a.put o.dst v') w') : wpList Tryd.prog ops Q (o :: rest) a w := by
  obtain ⟨i0, hi, hz0, hz1, hz2⟩ := info_parts infoZU8
  refine wpList_append_own w hgd s x T ho B 5 i0 (.int .u8 0) 1 1 hT hi hz0 hz1 hz2 rfl (by decide) v ds.length _ hs hown ⟨g, 0, none⟩ 1 1 [.int .u8 y] hx rfl ?_ ?_ ?_ ?_ hB ?_
  · intro j u hj
    match j, hj with
    | 0, hj => simp at hj; subst hj; simpa [Addr.add] using hy
  · intro u hu; simp at hu; subst hu; rfl
  · unfold maxLen; omega
  · omega
  · intro v' w' h1 h2 _
    refine h v' w' ?_ ?_
    · unfold Own
      simpa using h1
    · exact hb.grown h2 hB fun k hk => (World.ownsRow.lt hown k hk).1

def keyTo (k : Nat) : List Int := (List.range k).map fun i : Nat => (i : Int)
theorem keyTo_len (k : Nat) : (keyTo k).length = k := by simp [keyTo]
theorem keyTo_succ (k : Nat) : keyTo k ++ [(k : Int)] = keyTo (k + 1) := by simp [keyTo, List.range_succ]
theorem keyTo_all : keyTo 32 = keyL := by decide
theorem at_bytesL (s : List Int) (k : Nat) (hk : k < 32) : 0 ≤ at_ (bytesL s) k ∧ at_ (bytesL s) k < 256 := by
  have : at_ (bytesL s) k = byteAt s k := by simp [bytesL, at_, hk]
  rw [this]
  unfold byteAt
  omega
theorem hex_abc : hexS abcH = [53, 48, 56, 99, 53, 101, 56, 99, 51, 50, 55, 99, 49, 52, 101, 50, 101, 49, 97, 55, 50, 98, 97, 51, 52, 101, 101, 98, 52, 53, 50, 102, 51, 55, 52, 53, 56, 98, 50, 48, 57, 101, 100, 54, 51, 97, 50, 57, 52, 100, 57, 57, 57, 98, 52, 99, 56, 54, 54, 55, 53, 57, 56, 50] := by decide +kernel
theorem hex_nil : hexS nilH = [54, 57, 50, 49, 55, 97, 51, 48, 55, 57, 57, 48, 56, 48, 57, 52, 101, 49, 49, 49, 50, 49, 100, 48, 52, 50, 51, 53, 52, 97, 55, 99, 49, 102, 53, 53, 98, 54, 52, 56, 50, 99, 97, 49, 97, 53, 49, 101, 49, 98, 50, 53, 48, 100, 102, 100, 49, 101, 100, 48, 101, 101, 102, 57] := by decide +kernel
theorem hex_key : hexS keyH = [52, 56, 97, 56, 57, 57, 55, 100, 97, 52, 48, 55, 56, 55, 54, 98, 51, 100, 55, 57, 99, 48, 100, 57, 50, 51, 50, 53, 97, 100, 51, 98, 56, 57, 99, 98, 98, 55, 53, 52, 100, 56, 54, 97, 98, 55, 49, 97, 101, 101, 48, 52, 55, 97, 100, 51, 52, 53, 102, 100, 50, 99, 52, 57] := by decide +kernel
set_option maxRecDepth 100000 in
set_option maxHeartbeats 4000000 in
theorem known_any (w : World) (htab : Tabs w) : Calls Tryd.prog 14 #[] w fun e w' => e = .returned (.bool true) ∧ Below w.heap.size w w' := by
  have HT := Lib.hid htab
  have HP : Hid (2 ≤ w.heap.size) := Lib.hid htab.lt
  have hcv : (convert 22 22 (.slice (some ⟨w.heap.size, 0, none⟩) 3 3)).run Tryd.prog (w.alloc (.cells #[.int .u8 97, .int .u8 98, .int .u8 99] 5)) = .ok (.slice (some ⟨w.heap.size, 0, none⟩) 3 3) (w.alloc (.cells #[.int .u8 97, .int .u8 98, .int .u8 99] 5 (3, 4))) := Go.Joins.run_convert_bytes_const_at w 22 5 #[.int .u8 97, .int .u8 98, .int .u8 99] 3 3 w.heap.size rfl Tryd.underlying22 Tryd.underlying5
  have N1 := Lib.hid (Below.new w (.cells #[.int .u8 97, .int .u8 98, .int .u8 99] 5 (3, 4)))
  have NB : Hid (PartAt (w.alloc (.cells #[.int .u8 97, .int .u8 98, .int .u8 99] 5 (3, 4))) (w.alloc (.cells #[.int .u8 97, .int .u8 98, .int .u8 99] 5 (3, 4))).heap.size (.slice (some ⟨w.heap.size, 0, none⟩) 3 3) [97, 98, 99]) := Lib.hid (by
    refine ⟨_, 3, rfl, by decide, fun _ => ⟨_, _, rfl, by simp, by simp, fun k hk => ?_⟩⟩
    rw [Nat.zero_add, cell_of_row _ _ _ _ 5 (3, 4) (heap_alloc_new w _)]
    match k, hk with
    | 0, _ => rfl
    | 1, _ => rfl
    | 2, _ => rfl)
  clear htab
  go_enter Tryd.func14, Tryd.ntmps14
  go_wp2_with (fail)
  clear hcv
  generalize w.alloc (.cells #[.int .u8 97, .int .u8 98, .int .u8 99] 5 (3, 4)) = W1 at *
  generalize hp : w.heap.size = p at *
  have HPP := Lib.hid hp
  clear hp
  refine (sum_any _ 3 3 [97, 98, 99] W1 NB.out (by decide) (HT.out.below N1.out HP.out)).mono ?_
  rintro e W2 ⟨rfl, h2⟩
  have l1 : p ≤ W1.heap.size := by have := N1.out.size; rw [HPP.out] at this; exact this
  have B2 := Lib.hid (N1.out.trans (h2.mono l1))
  have L2 : Hid (p ≤ W2.heap.size) := Lib.hid (Nat.le_trans l1 h2.size)
  clear h2 N1 NB
  rw [abc_hash]
  go_wp2_with (fail)
  refine (sum_any none 0 0 [] W2 (PartAt.nil_ _ _) (by decide) (HT.out.below B2.out HP.out)).mono ?_
  rintro e W3 ⟨rfl, h3⟩
  have B3 := Lib.hid (B2.out.trans (h3.mono L2.out))
  have L3 : Hid (p ≤ W3.heap.size) := Lib.hid (Nat.le_trans L2.out h3.size)
  clear h3 B2 L2
  rw [nil_hash]
  have A1 : Hid (U8 ((W3.alloc (.cells (u8s z32) 24)).alloc (.cells (u8s z32) 24)) W3.heap.size 24 z32) := Lib.hid (heap_alloc2_old W3 _ _)
  have A2 : Hid (U8 ((W3.alloc (.cells (u8s z32) 24)).alloc (.cells (u8s z32) 24)) (W3.heap.size + 1) 24 z32) := Lib.hid (heap_alloc2_new W3 _ _)
  have B4 : Hid (Below W3.heap.size W3 ((W3.alloc (.cells (u8s z32) 24)).alloc (.cells (u8s z32) 24))) := Lib.hid (Go.Proofs.YtdjfklllfbenjaaDoor.Below.next (Below.new W3 _) (Below.new _ _))
  rw [u8s_z32] at A1 A2 B4
  have A2' := Lib.hid (A2.out.setRow_other (g := W3.heap.size) (cs := u8s abcH) (by omega))
  go_wp2_with (first | (refine st32 rfl _ _ rfl W3.heap.size rfl z32 abcH rfl A1.out rfl rfl ?_) | (refine st32 rfl _ _ rfl (W3.heap.size + 1) rfl z32 nilH rfl A2'.out rfl rfl ?_))
  have A3 := Lib.hid (show U8 ((((W3.alloc (.cells #[.int .u8 0, .int .u8 0, .int .u8 0, .int .u8 0, .int .u8 0, .int .u8 0, .int .u8 0, .int .u8 0, .int .u8 0, .int .u8 0, .int .u8 0, .int .u8 0, .int .u8 0, .int .u8 0, .int .u8 0, .int .u8 0, .int .u8 0, .int .u8 0, .int .u8 0, .int .u8 0, .int .u8 0, .int .u8 0, .int .u8 0, .int .u8 0, .int .u8 0, .int .u8 0, .int .u8 0, .int .u8 0, .int .u8 0, .int .u8 0, .int .u8 0, .int .u8 0] 24)).alloc (.cells #[.int .u8 0, .int .u8 0, .int .u8 0, .int .u8 0, .int .u8 0, .int .u8 0, .int .u8 0, .int .u8 0, .int .u8 0, .int .u8 0, .int .u8 0, .int .u8 0, .int .u8 0, .int .u8 0, .int .u8 0, .int .u8 0, .int .u8 0, .int .u8 0, .int .u8 0, .int .u8 0, .int .u8 0, .int .u8 0, .int .u8 0, .int .u8 0, .int .u8 0, .int .u8 0, .int .u8 0, .int .u8 0, .int .u8 0, .int .u8 0, .int .u8 0, .int .u8 0] 24)).setRow W3.heap.size (u8s abcH)).setRow (W3.heap.size + 1) (u8s nilH)) W3.heap.size 24 abcH from (U8.setRow (es := abcH) A1.out).setRow_other (by omega))
  have A4 := Lib.hid (show U8 ((((W3.alloc (.cells #[.int .u8 0, .int .u8 0, .int .u8 0, .int .u8 0, .int .u8 0, .int .u8 0, .int .u8 0, .int .u8 0, .int .u8 0, .int .u8 0, .int .u8 0, .int .u8 0, .int .u8 0, .int .u8 0, .int .u8 0, .int .u8 0, .int .u8 0, .int .u8 0, .int .u8 0, .int .u8 0, .int .u8 0, .int .u8 0, .int .u8 0, .int .u8 0, .int .u8 0, .int .u8 0, .int .u8 0, .int .u8 0, .int .u8 0, .int .u8 0, .int .u8 0, .int .u8 0] 24)).alloc (.cells #[.int .u8 0, .int .u8 0, .int .u8 0, .int .u8 0, .int .u8 0, .int .u8 0, .int .u8 0, .int .u8 0, .int .u8 0, .int .u8 0, .int .u8 0, .int .u8 0, .int .u8 0, .int .u8 0, .int .u8 0, .int .u8 0, .int .u8 0, .int .u8 0, .int .u8 0, .int .u8 0, .int .u8 0, .int .u8 0, .int .u8 0, .int .u8 0, .int .u8 0, .int .u8 0, .int .u8 0, .int .u8 0, .int .u8 0, .int .u8 0, .int .u8 0, .int .u8 0] 24)).setRow W3.heap.size (u8s abcH)).setRow (W3.heap.size + 1) (u8s nilH)) (W3.heap.size + 1) 24 nilH from U8.setRow (es := nilH) A2'.out)
  have B5 := Lib.hid (show Below p w ((((W3.alloc (.cells #[.int .u8 0, .int .u8 0, .int .u8 0, .int .u8 0, .int .u8 0, .int .u8 0, .int .u8 0, .int .u8 0, .int .u8 0, .int .u8 0, .int .u8 0, .int .u8 0, .int .u8 0, .int .u8 0, .int .u8 0, .int .u8 0, .int .u8 0, .int .u8 0, .int .u8 0, .int .u8 0, .int .u8 0, .int .u8 0, .int .u8 0, .int .u8 0, .int .u8 0, .int .u8 0, .int .u8 0, .int .u8 0, .int .u8 0, .int .u8 0, .int .u8 0, .int .u8 0] 24)).alloc (.cells #[.int .u8 0, .int .u8 0, .int .u8 0, .int .u8 0, .int .u8 0, .int .u8 0, .int .u8 0, .int .u8 0, .int .u8 0, .int .u8 0, .int .u8 0, .int .u8 0, .int .u8 0, .int .u8 0, .int .u8 0, .int .u8 0, .int .u8 0, .int .u8 0, .int .u8 0, .int .u8 0, .int .u8 0, .int .u8 0, .int .u8 0, .int .u8 0, .int .u8 0, .int .u8 0, .int .u8 0, .int .u8 0, .int .u8 0, .int .u8 0, .int .u8 0, .int .u8 0] 24)).setRow W3.heap.size (u8s abcH)).setRow (W3.heap.size + 1) (u8s nilH)) from below_setRow (below_setRow (B3.out.trans (B4.out.mono L3.out)) L3.out) (by have := L3.out; omega))
  generalize ((((W3.alloc (.cells #[.int .u8 0, .int .u8 0, .int .u8 0, .int .u8 0, .int .u8 0, .int .u8 0, .int .u8 0, .int .u8 0, .int .u8 0, .int .u8 0, .int .u8 0, .int .u8 0, .int .u8 0, .int .u8 0, .int .u8 0, .int .u8 0, .int .u8 0, .int .u8 0, .int .u8 0, .int .u8 0, .int .u8 0, .int .u8 0, .int .u8 0, .int .u8 0, .int .u8 0, .int .u8 0, .int .u8 0, .int .u8 0, .int .u8 0, .int .u8 0, .int .u8 0, .int .u8 0] 24)).alloc (.cells #[.int .u8 0, .int .u8 0, .int .u8 0, .int .u8 0, .int .u8 0, .int .u8 0, .int .u8 0, .int .u8 0, .int .u8 0, .int .u8 0, .int .u8 0, .int .u8 0, .int .u8 0, .int .u8 0, .int .u8 0, .int .u8 0, .int .u8 0, .int .u8 0, .int .u8 0, .int .u8 0, .int .u8 0, .int .u8 0, .int .u8 0, .int .u8 0, .int .u8 0, .int .u8 0, .int .u8 0, .int .u8 0, .int .u8 0, .int .u8 0, .int .u8 0, .int .u8 0] 24)).setRow W3.heap.size (u8s abcH)).setRow (W3.heap.size + 1) (u8s nilH)) = W4 at *
  generalize hq : W3.heap.size = q at *
  have HO := Lib.hid (Own.nil_ W4 (q + 2))
  have HQ : Hid (q + 2 ≤ W4.heap.size) := Lib.hid A4.out.lt
  clear hq A1 A2 A2' B4 B3
  go_loopw [3, 4] (fun v i wr => ∃ k : Nat, k ≤ 32 ∧ i = .int .i64 k ∧ Hid (Own wr (q + 2) v (keyTo k)) ∧ Hid (Below (q + 2) W4 wr)) (fun _ i _ => 32 - (intOf i).toNat)
  case atStart => exact ⟨0, Nat.zero_le _, rfl, HO, Lib.hid (Below.refl _ _)⟩
  case round =>
    obtain ⟨k, hk, rfl, ho, hb⟩ := hrel
    clear HO
    by_cases g : k < 32
    · have gI : (k : Int) < 32 := by omega
      have hw : IntKind.u8.wrap (k : Int) = k := by rw [IntKind.wrap_u8]; omega
      have hqs : q + 2 ≤ wr.heap.size := Nat.le_trans HQ.out hb.out.size
      have HOA := Lib.hid (ho.out.keep (fun g hg => Below.heap_alloc wr (.cells #[.int .u8 (k : Int)] 5) g hg))
      have HBA := Lib.hid (hb.out.alloc hqs (.cells #[.int .u8 (k : Int)] 5))
      clear ho hb
      go_wp2_with (at_builtin; refine app1 rfl _ _ _ rfl Tryd.underlying22 rfl HOA.out HBA.out ?c1 wr.heap.size (k : Int) rfl ?c2 ?c3 ?_)
      case c1 => simp; omega
      case c2 => rw [World.cell?_alloc_at _ _ _ _ rfl]; rfl
      case c3 => rw [keyTo_len]; omega
      intro x' w1 hown1 hbl1
      have HO1 : Hid (Own w1 (q + 2) x' (keyTo (k + 1))) := Lib.hid (by rw [← keyTo_succ]; exact hown1)
      have HB1 := Lib.hid hbl1
      clear hown1 hbl1 HOA HBA hqs
      go_wp2_with (fail)
      go_roundw
      case rel => exact ⟨k + 1, by omega, by go_num, HO1, HB1⟩
      case measure => simp [intOf]; omega
    · obtain rfl : k = 32 := by omega
      rw [keyTo_all] at ho
      rw [show ((32 : Nat) : Int) = (32 : Int) from rfl]
      have A5 := Lib.hid (A3.out.below hb.out (by omega))
      have A6 := Lib.hid (A4.out.below hb.out (by omega))
      have hpq : p ≤ q + 2 := by have := L3.out; omega
      have B6 := Lib.hid (B5.out.trans (hb.out.mono hpq))
      have L6 : Hid (q + 2 ≤ wr.heap.size) := Lib.hid (Nat.le_trans HQ.out hb.out.size)
      clear A3 A4 B5 hb HQ
      obtain ⟨A, c, rfl, hkc, -⟩ := ho.out.part
      rw [show keyL.length = 32 from rfl] at ho hkc ⊢
      have HKE : Hid (keyedE 32 = 0) := Lib.hid rfl
      have HKH : Hid (keyedH keyL [] = keyH) := Lib.hid (by rw [← key_hash]; rfl)
      have HNE : Hid (keyedE 0 = 2) := Lib.hid rfl
      have HNH : Hid (keyedH [] keyL = z32) := Lib.hid rfl
      go_wp2_with (fail)
      refine (keyed_any A none 32 c 0 0 keyL [] wr rfl ho.out.part (PartAt.nil_ _ _) (by decide) (HT.out.below B6.out HP.out)).mono ?_
      rintro e w5 ⟨rfl, h5⟩
      rw [HKE.out, HKH.out]
      have q5 := h5.trans ((Below.new w5 (.cells #[.int .u8 0, .int .u8 0, .int .u8 0, .int .u8 0, .int .u8 0, .int .u8 0, .int .u8 0, .int .u8 0, .int .u8 0, .int .u8 0, .int .u8 0, .int .u8 0, .int .u8 0, .int .u8 0, .int .u8 0, .int .u8 0, .int .u8 0, .int .u8 0, .int .u8 0, .int .u8 0, .int .u8 0, .int .u8 0, .int .u8 0, .int .u8 0, .int .u8 0, .int .u8 0, .int .u8 0, .int .u8 0, .int .u8 0, .int .u8 0, .int .u8 0, .int .u8 0] 24)).mono h5.size)
      have q6 := below_setRow (g := w5.heap.size) (cs := u8s keyH) q5 h5.size
      have C1 : Hid (U8 (w5.alloc (.cells #[.int .u8 0, .int .u8 0, .int .u8 0, .int .u8 0, .int .u8 0, .int .u8 0, .int .u8 0, .int .u8 0, .int .u8 0, .int .u8 0, .int .u8 0, .int .u8 0, .int .u8 0, .int .u8 0, .int .u8 0, .int .u8 0, .int .u8 0, .int .u8 0, .int .u8 0, .int .u8 0, .int .u8 0, .int .u8 0, .int .u8 0, .int .u8 0, .int .u8 0, .int .u8 0, .int .u8 0, .int .u8 0, .int .u8 0, .int .u8 0, .int .u8 0, .int .u8 0] 24)) w5.heap.size 24 z32) := Lib.hid (res_new w5)
      have C2 := Lib.hid (U8.setRow (es := keyH) C1.out)
      have A7 := Lib.hid (A5.out.below q6 (by have := L6.out; omega))
      have A8 := Lib.hid (A6.out.below q6 (by have := L6.out; omega))
      have B7 := Lib.hid (B6.out.trans (q6.mono (by have := L6.out; omega)))
      have O7 := Lib.hid (ho.out.below q6)
      have L7 : Hid (q + 2 ≤ w5.heap.size) := Lib.hid (Nat.le_trans L6.out h5.size)
      have L8 : Hid (((w5.alloc (.cells #[.int .u8 0, .int .u8 0, .int .u8 0, .int .u8 0, .int .u8 0, .int .u8 0, .int .u8 0, .int .u8 0, .int .u8 0, .int .u8 0, .int .u8 0, .int .u8 0, .int .u8 0, .int .u8 0, .int .u8 0, .int .u8 0, .int .u8 0, .int .u8 0, .int .u8 0, .int .u8 0, .int .u8 0, .int .u8 0, .int .u8 0, .int .u8 0, .int .u8 0, .int .u8 0, .int .u8 0, .int .u8 0, .int .u8 0, .int .u8 0, .int .u8 0, .int .u8 0] 24)).setRow w5.heap.size (u8s keyH)).heap.size = w5.heap.size + 1) := Lib.hid (by rw [size_setRow]; simp)
      clear h5 q5 q6 ho A5 A6 B6 L6
      go_upto_region 8 with (refine st32 rfl _ _ rfl w5.heap.size rfl z32 keyH rfl C1.out rfl rfl ?_)
      generalize (w5.alloc (.cells #[.int .u8 0, .int .u8 0, .int .u8 0, .int .u8 0, .int .u8 0, .int .u8 0, .int .u8 0, .int .u8 0, .int .u8 0, .int .u8 0, .int .u8 0, .int .u8 0, .int .u8 0, .int .u8 0, .int .u8 0, .int .u8 0, .int .u8 0, .int .u8 0, .int .u8 0, .int .u8 0, .int .u8 0, .int .u8 0, .int .u8 0, .int .u8 0, .int .u8 0, .int .u8 0, .int .u8 0, .int .u8 0, .int .u8 0, .int .u8 0, .int .u8 0, .int .u8 0] 24)).setRow w5.heap.size (u8s keyH) = w6 at *
      generalize hr : w5.heap.size = r at *
      clear hr C1
      go_wp2_with (fail)
      refine (keyed_any none A 0 0 32 c [] keyL w6 rfl (PartAt.nil_ _ _) O7.out.part (by decide) (HT.out.below B7.out HP.out)).mono ?_
      rintro e w7 ⟨rfl, h7⟩
      rw [HNE.out, HNH.out]
      have C3 : Hid (U8 (w7.alloc (.cells #[.int .u8 0, .int .u8 0, .int .u8 0, .int .u8 0, .int .u8 0, .int .u8 0, .int .u8 0, .int .u8 0, .int .u8 0, .int .u8 0, .int .u8 0, .int .u8 0, .int .u8 0, .int .u8 0, .int .u8 0, .int .u8 0, .int .u8 0, .int .u8 0, .int .u8 0, .int .u8 0, .int .u8 0, .int .u8 0, .int .u8 0, .int .u8 0, .int .u8 0, .int .u8 0, .int .u8 0, .int .u8 0, .int .u8 0, .int .u8 0, .int .u8 0, .int .u8 0] 24)) w7.heap.size 24 z32) := Lib.hid (res_new w7)
      have q7 := below_setRow (g := w7.heap.size) (cs := u8s z32) (h7.trans ((Below.new w7 (.cells #[.int .u8 0, .int .u8 0, .int .u8 0, .int .u8 0, .int .u8 0, .int .u8 0, .int .u8 0, .int .u8 0, .int .u8 0, .int .u8 0, .int .u8 0, .int .u8 0, .int .u8 0, .int .u8 0, .int .u8 0, .int .u8 0, .int .u8 0, .int .u8 0, .int .u8 0, .int .u8 0, .int .u8 0, .int .u8 0, .int .u8 0, .int .u8 0, .int .u8 0, .int .u8 0, .int .u8 0, .int .u8 0, .int .u8 0, .int .u8 0, .int .u8 0, .int .u8 0] 24)).mono h7.size)) h7.size
      have A9 := Lib.hid (A7.out.below q7 (by have := L7.out; have := L8.out; omega))
      have A10 := Lib.hid (A8.out.below q7 (by have := L7.out; have := L8.out; omega))
      have C4 := Lib.hid (C2.out.below q7 (by have := L8.out; omega))
      have B8 := Lib.hid (B7.out.trans (q7.mono (by have := L7.out; have := L8.out; omega)))
      have L9 : Hid (r + 1 ≤ w7.heap.size) := Lib.hid (by have := h7.size; have := L8.out; omega)
      clear h7 q7 A7 A8 B7 O7 L8 C2
      go_upto_region 9 with (refine st32 rfl _ _ rfl w7.heap.size rfl z32 z32 rfl C3.out rfl rfl ?_)
      have L10 : Hid (r + 2 ≤ ((w7.alloc (.cells #[.int .u8 0, .int .u8 0, .int .u8 0, .int .u8 0, .int .u8 0, .int .u8 0, .int .u8 0, .int .u8 0, .int .u8 0, .int .u8 0, .int .u8 0, .int .u8 0, .int .u8 0, .int .u8 0, .int .u8 0, .int .u8 0, .int .u8 0, .int .u8 0, .int .u8 0, .int .u8 0, .int .u8 0, .int .u8 0, .int .u8 0, .int .u8 0, .int .u8 0, .int .u8 0, .int .u8 0, .int .u8 0, .int .u8 0, .int .u8 0, .int .u8 0, .int .u8 0] 24)).setRow w7.heap.size (u8s z32)).heap.size) := Lib.hid (by rw [size_setRow]; simp; have := L9.out; omega)
      generalize (w7.alloc (.cells #[.int .u8 0, .int .u8 0, .int .u8 0, .int .u8 0, .int .u8 0, .int .u8 0, .int .u8 0, .int .u8 0, .int .u8 0, .int .u8 0, .int .u8 0, .int .u8 0, .int .u8 0, .int .u8 0, .int .u8 0, .int .u8 0, .int .u8 0, .int .u8 0, .int .u8 0, .int .u8 0, .int .u8 0, .int .u8 0, .int .u8 0, .int .u8 0, .int .u8 0, .int .u8 0, .int .u8 0, .int .u8 0, .int .u8 0, .int .u8 0, .int .u8 0, .int .u8 0] 24)).setRow w7.heap.size (u8s z32) = w8 at *
      generalize w7.heap.size = s at *
      clear C3 L9
      go_wp2_with (refine makeB rfl _ _ _ rfl Tryd.underlying22 33 _ _ rfl rfl rfl rfl (by omega) ?_; intro w9 m1 m2 m3)
      refine (new_no (some ⟨w8.heap.size, 0, none⟩) 33 33 w9 (by omega)).mono ?_
      rintro e w10 ⟨rfl, rfl⟩
      have A11 := Lib.hid (A9.out.below m2 (by have := L7.out; have := L10.out; omega))
      have A12 := Lib.hid (A10.out.below m2 (by have := L7.out; have := L10.out; omega))
      have C5 := Lib.hid (C4.out.below m2 (by have := L10.out; omega))
      have B9 := Lib.hid (B8.out.trans (m2.mono (by have := L7.out; have := L10.out; omega)))
      clear m1 m2 m3 A9 A10 C4 B8 L10
      go_wp2_with (fail)
      have E1 := hex_any q 32 abcH w10 (fun k hk => A11.out.at_at hk rfl) A11.out.lt (fun k hk => by rw [← abc_hash]; exact at_bytesL _ k hk) (by decide)
      rw [hex_abc] at E1
      refine E1.mono ?_
      rintro e w11 ⟨rfl, h11⟩
      have A13 := Lib.hid (A12.out.below h11 A12.out.lt)
      have C6 := Lib.hid (C5.out.below h11 C5.out.lt)
      have L11 : Hid (p ≤ w10.heap.size) := Lib.hid (by have := A12.out.lt; have := L3.out; omega)
      have B10 := Lib.hid (B9.out.trans (h11.mono L11.out))
      have L12 := Lib.hid (Nat.le_trans L11.out h11.size)
      clear E1 h11 A11 A12 C5 B9 L11
      go_wp2_with (fail)
      have E2 := hex_any (q + 1) 32 nilH w11 (fun k hk => A13.out.at_at hk rfl) A13.out.lt (fun k hk => by rw [← nil_hash]; exact at_bytesL _ k hk) (by decide)
      rw [hex_nil] at E2
      refine E2.mono ?_
      rintro e w12 ⟨rfl, h12⟩
      have C7 := Lib.hid (C6.out.below h12 C6.out.lt)
      have B11 := Lib.hid (B10.out.trans (h12.mono L12.out))
      have L13 := Lib.hid (Nat.le_trans L12.out h12.size)
      clear E2 h12 A13 C6 B10 L12
      go_wp2_with (fail)
      have E3 := hex_any r 32 keyH w12 (fun k hk => C7.out.at_at hk rfl) C7.out.lt (fun k hk => by rw [← key_hash]; exact at_bytesL _ k hk) (by decide)
      rw [hex_key] at E3
      refine E3.mono ?_
      rintro e w13 ⟨rfl, h13⟩
      have B12 := Lib.hid (B11.out.trans (h13.mono L13.out))
      clear E3 h13 C7 B11 L13
      go_wp2_with (fail)
      go_ret
      exact ⟨rfl, by rw [HPP.out]; exact B12.out⟩
end Go.Proofs.YtdjfklllfbenjaaDoor
