/- The law's hexadecimal digits. -/
import Derived.Test.YtdjfklllfbenjaaDoorBo
namespace Go.Proofs.YtdjfklllfbenjaaDoor
open Go.RowKit

def hexD : ByteArray := ⟨#[48, 49, 50, 51, 52, 53, 54, 55, 56, 57, 97, 98, 99, 100, 101, 102]⟩
def dg (q : Nat) : UInt8 := UInt8.ofNat (if q < 10 then 48 + q else 87 + q)
def hexS (ds : List Int) : List UInt8 := ds.flatMap fun z => [dg (z.toNat / 16), dg (z.toNat % 16)]
theorem hexS_len (ds : List Int) : (hexS ds).length = 2 * ds.length := by
  induction ds with
  | nil => rfl
  | cons z r ih => simp only [hexS, List.flatMap_cons, List.length_append, List.length_cons, List.length_nil] at ih ⊢; omega
theorem hexS_take {ds : List Int} {k : Nat} {z : Nat} (hk : k < ds.length) (hz : at_ ds k = z) : hexS (ds.take (k + 1)) = hexS (ds.take k) ++ [dg (z / 16), dg (z % 16)] := by
  unfold hexS
  rw [List.take_add_one, List.getElem?_eq_getElem hk, List.flatMap_append]
  have : ds[k] = (z : Int) := by rw [← hz]; simp [at_, hk]
  simp [this]
theorem hex_at (q : Nat) (hq : q < 16) (h : q < ({ data := #[48, 49, 50, 51, 52, 53, 54, 55, 56, 57, 97, 98, 99, 100, 101, 102] } : ByteArray).size) : ({ data := #[48, 49, 50, 51, 52, 53, 54, 55, 56, 57, 97, 98, 99, 100, 101, 102] } : ByteArray)[q]'h = dg q := by
  have h1 : ∀ q : Fin 16, ({ data := #[48, 49, 50, 51, 52, 53, 54, 55, 56, 57, 97, 98, 99, 100, 101, 102] } : ByteArray).data[q.val]?.getD 0 = dg q.val := by decide
  have h2 := h1 ⟨q, hq⟩
  rw [← h2]
  have h3 : q < ({ data := #[48, 49, 50, 51, 52, 53, 54, 55, 56, 57, 97, 98, 99, 100, 101, 102] } : ByteArray).data.size := hq
  simp [ByteArray.getElem_eq_getElem_data]
  rw [List.getElem?_eq_getElem (by exact hq)]
  rfl
theorem conv_two (w : World) (a b : UInt8) : (convert 22 9 (.slice (some ⟨w.heap.size, 0, none⟩) 2 2)).run Tryd.prog (w.alloc (.cells #[.int .u8 (a.toNat : Int), .int .u8 (b.toNat : Int)] 5)).drew = .ok (.string ⟨#[a, b]⟩) (w.alloc (.cells #[.int .u8 (a.toNat : Int), .int .u8 (b.toNat : Int)] 5)).drew := by
  refine run_convert_bytes_back _ 22 9 5 ⟨w.heap.size, 0, none⟩ 2 [a, b] Tryd.underlying22 Tryd.underlying5 Tryd.underlying9 (fun j hj => ?_)
  rw [Addr.add_mid, Nat.zero_add, cell_of_row (w.alloc _).drew _ _ _ 5 (0, 0) (heap_alloc_new w _)]
  match j, hj with
  | 0, _ => rfl
  | 1, _ => rfl
theorem hex_any (b c : Nat) (ds : List Int) (w : World) (hc : ∀ k, k < ds.length → w.cell? ⟨b, k, none⟩ = some (.int .u8 (at_ ds k))) (hb : b < w.heap.size) (hr : ∀ k, k < ds.length → 0 ≤ at_ ds k ∧ at_ ds k < 256) (hl : ds.length < 1000) :
    Calls Tryd.prog 36 #[.slice (some ⟨b, 0, none⟩) ds.length c] w fun e w' => e = .returned (.string ⟨(hexS ds).toArray⟩) ∧ Below w.heap.size w w' := by
  have HC := Lib.hid hc
  have HB := Lib.hid hb
  have HR := Lib.hid hr
  have HW := Lib.hid (Below.refl w.heap.size w)
  obtain ⟨n, hn⟩ : ∃ n, ds.length = n := ⟨_, rfl⟩
  rw [hn] at hl ⊢
  have HN := Lib.hid hn
  clear hc hb hr hn
  go_enter Tryd.func36, Tryd.ntmps36
  go_wp2_with (fail)
  go_loopw [3, 4] (fun s i wr => ∃ k : Nat, k ≤ n ∧ i = .int .i64 k ∧ s = .string ⟨(hexS (ds.take k)).toArray⟩ ∧ Hid (Below w.heap.size w wr)) (fun _ i _ => n - (intOf i).toNat)
  case atStart => exact ⟨0, Nat.zero_le _, rfl, rfl, HW⟩
  case round =>
    obtain ⟨k, hk, rfl, rfl, hbl⟩ := hrel
    clear HW
    by_cases g : k < n
    · have gI : (k : Int) < n := by omega
      obtain ⟨r0, r1⟩ := HR.out k (by rw [HN.out]; exact g)
      have c0 := kept_cell hbl.out (HC.out k (by rw [HN.out]; exact g)) HB.out
      obtain ⟨z, hz⟩ : ∃ z : Nat, at_ ds k = z := ⟨(at_ ds k).toNat, by omega⟩
      rw [hz] at c0 r1
      have hz16 : z / 16 < 16 := by omega
      have hzm : z % 16 < 16 := by omega
      have HT := Lib.hid (hexS_take (by rw [HN.out]; exact g) hz)
      have HL : Hid ((hexS (ds.take k)).length ≤ 2 * n) := Lib.hid (by rw [hexS_len, List.length_take]; have : min k ds.length ≤ k := Nat.min_le_left _ _; omega)
      obtain ⟨q1, hq1⟩ : ∃ q, z / 16 = q := ⟨_, rfl⟩
      obtain ⟨q2, hq2⟩ : ∃ q, z % 16 = q := ⟨_, rfl⟩
      rw [hq1] at hz16 HT
      rw [hq2] at hzm HT
      have hv1 : (z : Int) / 16 = q1 := by omega
      have hv2 : (z : Int) % 16 = q2 := by omega
      have hw1 : IntKind.u8.wrap (q1 : Int) = q1 := by rw [IntKind.wrap_u8]; omega
      have hw2 : IntKind.u8.wrap (q2 : Int) = q2 := by rw [IntKind.wrap_u8]; omega
      have hy1 : (q1 : Int) < 16 := by omega
      have hy2 : (q2 : Int) < 16 := by omega
      have hcl : ¬ 9223372036854775807 < (hexS (ds.take k)).length + 2 := by have := HL.out; omega
      have hx1 := hex_at q1 hz16
      have hx2 := hex_at q2 hzm
      have hcv := conv_two wr (dg q1) (dg q2)
      clear r0 hz
      have HB2 := Lib.hid (show Below w.heap.size w (wr.alloc (.cells #[.int .u8 ((dg q1).toNat : Int), .int .u8 ((dg q2).toNat : Int)] 5)).drew from (Go.Proofs.YtdjfklllfbenjaaDoor.Below.next hbl.out (Below.new wr _)).drew)
      have HAP : Hid ((({ data := (hexS (ds.take k)).toArray } : ByteArray) ++ ({ data := #[dg q1, dg q2] } : ByteArray)) = ⟨(hexS (ds.take (k + 1))).toArray⟩) := Lib.hid (by
        rw [HT.out]
        apply ByteArray.ext
        simp)
      clear hbl HC HT
      go_wp2_with (fail)
      go_region
      rw [HAP.out]
      go_wp2_with (fail)
      go_roundw
      case rel => exact ⟨k + 1, by omega, by go_num, rfl, HB2⟩
      case measure => simp [intOf]; omega
    · obtain rfl : k = n := by omega
      rw [List.take_of_length_le (by rw [HN.out]; exact Nat.le_refl _)]
      have h := hbl.out
      go_wp2_with (fail)
      go_ret
      exact ⟨rfl, h⟩
end Go.Proofs.YtdjfklllfbenjaaDoor
