/- Package seal: the model: bytes xored, the key stream, the tag, sealed bytes. -/
import Derived.Test.YtdjfklllfbenjaaDoorBs0
import Derived.Laws.BitsAllLaws
namespace Go.Proofs.YtdjfklllfbenjaaDoor
open Go.RowKit

/-! ### Bytes -/
def x8 (a b : Int) : Int := bits .xor .u8 a b
def o8 (a b : Int) : Int := bits .or .u8 a b
def By (z : Int) : Prop := 0 ≤ z ∧ z < 256
theorem x8_comm (a b : Int) : x8 a b = x8 b a := by unfold x8 bits; simp only [BitVec.xor_comm]
theorem x8_nat {a b : Int} (ha : By a) (hb : By b) : x8 a b = ((a.toNat ^^^ b.toNat : Nat) : Int) := u8_xor a b ha.1 ha.2 hb.1 hb.2
theorem o8_nat {a b : Int} (ha : By a) (hb : By b) : o8 a b = ((a.toNat ||| b.toNat : Nat) : Int) := u8_or a b ha.1 ha.2 hb.1 hb.2
theorem wrap_by (n : Nat) : By (IntKind.u8.wrap (n : Int)) := by rw [IntKind.wrap_u8']; unfold By; omega
theorem x8_by (a b : Int) : By (x8 a b) := wrap_by _
theorem o8_by (a b : Int) : By (o8 a b) := wrap_by _
theorem x8_x8 {a b c : Int} (ha : By a) (hb : By b) (hc : By c) : x8 (x8 a b) c = x8 a (x8 b c) := by
  rw [x8_nat (x8_by a b) hc, x8_nat ha (x8_by b c), x8_nat ha hb, x8_nat hb hc, Int.toNat_natCast, Int.toNat_natCast, Nat.xor_assoc]
theorem x8_self {a : Int} (ha : By a) : x8 a a = 0 := by rw [x8_nat ha ha, Nat.xor_self]; rfl
theorem x8_zero {a : Int} (ha : By a) : x8 a 0 = a := by
  rw [x8_nat ha ⟨by decide, by decide⟩]
  show ((a.toNat ^^^ 0 : Nat) : Int) = a
  rw [Nat.xor_zero]
  exact Int.toNat_of_nonneg ha.1
theorem x8_back {a b : Int} (ha : By a) (hb : By b) : x8 a (x8 a b) = b := by
  rw [← x8_x8 ha ha hb, x8_self ha, x8_comm, x8_zero hb]
theorem x8_eq {a b : Int} (ha : By a) (hb : By b) : x8 a b = 0 ↔ a = b := by
  constructor
  · intro h
    have h1 := x8_back ha hb
    rw [h, x8_zero ha] at h1
    exact h1
  · rintro rfl; exact x8_self ha
theorem o8_eq {a b : Int} (ha : By a) (hb : By b) : o8 a b = 0 ↔ a = 0 ∧ b = 0 := by
  rw [o8_nat ha hb]
  have h1 := Int.toNat_of_nonneg ha.1
  have h2 := Int.toNat_of_nonneg hb.1
  constructor
  · intro h
    have h3 : a.toNat ||| b.toNat = 0 := by omega
    have h4 : a.toNat = 0 ∧ b.toNat = 0 := by simpa using h3
    omega
  · rintro ⟨rfl, rfl⟩; rfl
def Bys8 (ds : List Int) : Prop := ∀ x ∈ ds, By x
theorem Bys8.at_ {ds : List Int} (h : Bys8 ds) (k : Nat) : By (at_ ds k) := by
  unfold Go.Proofs.YtdjfklllfbenjaaDoor.at_
  rcases e : ds[k]? with _ | x
  · exact ⟨by decide, by decide⟩
  · exact h x (List.mem_of_getElem? e)
theorem Bys8.nil : Bys8 [] := fun _ h => by simp at h
theorem Bys8.app {a b : List Int} (ha : Bys8 a) (hb : Bys8 b) : Bys8 (a ++ b) := fun x h => (List.mem_append.1 h).elim (ha x) (hb x)
theorem Bys8.take {a : List Int} (ha : Bys8 a) (n : Nat) : Bys8 (a.take n) := fun x h => ha x (List.mem_of_mem_take h)
theorem Bys8.drop {a : List Int} (ha : Bys8 a) (n : Nat) : Bys8 (a.drop n) := fun x h => ha x (List.mem_of_mem_drop h)
theorem bytesL_by (s : List Int) : Bys8 (bytesL s) := by
  intro x hx
  obtain ⟨i, -, rfl⟩ := List.mem_map.1 hx
  unfold byteAt By
  omega
theorem hashB_by (kd bd : List Int) : Bys8 (hashB kd bd) := bytesL_by _

/-! ### The key stream -/
def strL : List Int := [115, 116, 114, 101, 97, 109]
def tagLb : List Int := [116, 97, 103]
def beAt (i j : Nat) : Int := ((i / 256 ^ (7 - j) % 256 : Nat) : Int)
def be8 (i : Nat) : List Int := (List.range 8).map (beAt i)
theorem be8_len (i : Nat) : (be8 i).length = 8 := by simp [be8]
theorem be8_succ (i j : Nat) : (List.range j).map (beAt i) ++ [beAt i j] = (List.range (j + 1)).map (beAt i) := by simp [List.range_succ]
def blk (kd nd : List Int) (i : Nat) : List Int := hashB (hashB kd strL) (nd ++ be8 i)
theorem blk_len (kd nd : List Int) (i : Nat) : (blk kd nd i).length = 32 := hashB_len _ _
theorem blk_by (kd nd : List Int) (i : Nat) : Bys8 (blk kd nd i) := hashB_by _ _
def strm (kd nd : List Int) : Nat → List Int
  | 0 => []
  | j + 1 => strm kd nd j ++ blk kd nd j
theorem strm_zero (kd nd : List Int) : strm kd nd 0 = [] := rfl
theorem strm_succ (kd nd : List Int) (j : Nat) : strm kd nd (j + 1) = strm kd nd j ++ blk kd nd j := rfl
theorem strm_len (kd nd : List Int) (j : Nat) : (strm kd nd j).length = 32 * j := by
  induction j with
  | zero => rfl
  | succ j ih => rw [strm_succ, List.length_append, ih, blk_len]; omega
theorem strm_by (kd nd : List Int) (j : Nat) : Bys8 (strm kd nd j) := by
  induction j with
  | zero => exact Bys8.nil
  | succ j ih => exact ih.app (blk_by _ _ _)
def streamL (kd nd : List Int) (n : Nat) : List Int := (strm kd nd n).take n
theorem streamL_len (kd nd : List Int) (n : Nat) : (streamL kd nd n).length = n := by
  unfold streamL
  rw [List.length_take, strm_len]
  omega
theorem streamL_by (kd nd : List Int) (n : Nat) : Bys8 (streamL kd nd n) := (strm_by _ _ _).take _
theorem strm_take (kd nd : List Int) (n a d : Nat) (h : n ≤ 32 * a) : (strm kd nd (a + d)).take n = (strm kd nd a).take n := by
  induction d with
  | zero => rfl
  | succ d ih =>
    show (strm kd nd (a + d + 1)).take n = _
    rw [strm_succ, List.take_append_of_le_length (by rw [strm_len]; omega), ih]
/-- The stream by enough blocks. -/
theorem strm_enough (kd nd : List Int) (n j : Nat) (h : n ≤ 32 * j) : (strm kd nd j).take n = streamL kd nd n := by
  unfold streamL
  rcases Nat.le_total j n with h1 | h1
  · obtain ⟨d, rfl⟩ := Nat.exists_eq_add_of_le h1
    exact (strm_take kd nd _ j d h).symm
  · obtain ⟨d, rfl⟩ := Nat.exists_eq_add_of_le h1
    exact strm_take kd nd _ n d (by omega)
/-- One more block, or its beginning. -/
theorem strm_step (kd nd : List Int) (n j : Nat) (h : 32 * j < n) : (strm kd nd j).take n ++ (blk kd nd j).take (min 32 (n - 32 * j)) = (strm kd nd (j + 1)).take n := by
  rw [strm_succ, List.take_append, strm_len]
  congr 1
  rcases Nat.le_total 32 (n - 32 * j) with h1 | h1
  · rw [Nat.min_eq_left h1, List.take_of_length_le (by rw [blk_len]; omega), List.take_of_length_le (by rw [blk_len]; omega)]
  · rw [Nat.min_eq_right h1]
theorem strm_below (kd nd : List Int) (n j : Nat) (h : 32 * j < n) : ((strm kd nd j).take n).length = 32 * j := by
  rw [List.length_take, strm_len]; omega
theorem strm_whole (kd nd : List Int) (n j : Nat) (h : n ≤ 32 * j) : ((strm kd nd j).take n).length = n := by
  rw [List.length_take, strm_len]; omega

/-! ### Xored bytes, tag, sealed bytes -/
def mskTo (m b : List Int) (i : Nat) : List Int := (List.range b.length).map fun k => if k < i then x8 (at_ m k) (at_ b k) else at_ m k
def xorL (m b : List Int) : List Int := (List.range b.length).map fun k => x8 (at_ m k) (at_ b k)
theorem mskTo_len (m b : List Int) (i : Nat) : (mskTo m b i).length = b.length := by simp [mskTo]
theorem xorL_len (m b : List Int) : (xorL m b).length = b.length := by simp [xorL]
theorem mskTo_zero (m b : List Int) (h : m.length = b.length) : mskTo m b 0 = m := by
  apply List.ext_getElem
  · rw [mskTo_len, h]
  · intro k h1 h2
    simp [mskTo, at_, h2]
theorem mskTo_all (m b : List Int) : mskTo m b b.length = xorL m b := by
  unfold mskTo xorL
  apply List.map_congr_left
  intro k hk
  rw [if_pos (by simpa using hk)]
theorem mskTo_at (m b : List Int) (i k : Nat) (hk : k < b.length) (hi : i ≤ k) : at_ (mskTo m b i) k = at_ m k := by
  simp [mskTo, at_, hk, show ¬ k < i by omega]
theorem mskTo_set (m b : List Int) (i : Nat) : (mskTo m b i).set i (x8 (at_ m i) (at_ b i)) = mskTo m b (i + 1) := by
  apply List.ext_getElem
  · simp [mskTo]
  · intro j h1 h2
    rw [List.getElem_set]
    simp only [mskTo, List.getElem_map, List.getElem_range]
    split
    · subst i; rw [if_pos (by omega)]
    · split <;> split <;> first | rfl | omega
theorem xorL_by (m b : List Int) : Bys8 (xorL m b) := by
  intro x hx
  obtain ⟨i, -, rfl⟩ := List.mem_map.1 hx
  exact x8_by _ _
theorem xorL_at (m b : List Int) (k : Nat) (hk : k < b.length) : at_ (xorL m b) k = x8 (at_ m k) (at_ b k) := by simp [xorL, at_, hk]
theorem at_ext {a b : List Int} (hl : a.length = b.length) (h : ∀ k, k < a.length → at_ a k = at_ b k) : a = b := by
  apply List.ext_getElem hl
  intro k h1 h2
  have := h k h1
  simpa [at_, h1, h2] using this
/-- Xored twice with the same bytes. -/
theorem xorL_back (m b : List Int) (hm : Bys8 m) (hb : Bys8 b) : xorL m (xorL m b) = b := by
  apply at_ext
  · rw [xorL_len, xorL_len]
  · intro k hk
    rw [xorL_len, xorL_len] at hk
    rw [xorL_at _ _ _ (by rw [xorL_len]; exact hk), xorL_at _ _ _ hk]
    exact x8_back (hm.at_ k) (hb.at_ k)
def maskL (kd nd bd : List Int) : List Int := xorL (streamL kd nd bd.length) bd
theorem maskL_len (kd nd bd : List Int) : (maskL kd nd bd).length = bd.length := xorL_len _ _
theorem maskL_by (kd nd bd : List Int) : Bys8 (maskL kd nd bd) := xorL_by _ _
theorem maskL_back (kd nd bd : List Int) (hb : Bys8 bd) : maskL kd nd (maskL kd nd bd) = bd := by
  show xorL (streamL kd nd (maskL kd nd bd).length) (maskL kd nd bd) = bd
  rw [maskL_len]
  exact xorL_back _ _ (streamL_by _ _ _) hb
def tagL (kd td : List Int) : List Int := (hashB (hashB kd tagLb) td).take 16
theorem tagL_len (kd td : List Int) : (tagL kd td).length = 16 := by unfold tagL; rw [List.length_take, hashB_len]; rfl
theorem tagL_by (kd td : List Int) : Bys8 (tagL kd td) := (hashB_by _ _).take _
def sealL (kd nd pd : List Int) : List Int := (nd ++ maskL kd nd pd) ++ tagL kd (nd ++ maskL kd nd pd)
theorem sealL_len (kd nd pd : List Int) : (sealL kd nd pd).length = nd.length + pd.length + 16 := by unfold sealL; rw [List.length_append, List.length_append, maskL_len, tagL_len]
theorem sealL_by (kd nd pd : List Int) (hn : Bys8 nd) : Bys8 (sealL kd nd pd) := (hn.app (maskL_by _ _ _)).app (tagL_by _ _)
/-- The error of Open behind the key, and the plaintext. -/
def openE (kd b : List Int) : Int := if b.length < 32 then 4 else if 65536 < b.length then 5 else if b.drop (b.length - 16) = tagL kd (b.take (b.length - 16)) then 0 else 10
def openP (kd b : List Int) : List Int := if openE kd b = 0 then maskL kd (b.take 16) ((b.take (b.length - 16)).drop 16) else []
/-- Sealed bytes are opened again. -/
theorem open_seal (kd nd pd : List Int) (hn : nd.length = 16) (hp : pd.length ≤ 65504) (hb : Bys8 pd) : openE kd (sealL kd nd pd) = 0 ∧ openP kd (sealL kd nd pd) = pd := by
  have hl := sealL_len kd nd pd
  have e1 : (sealL kd nd pd).length - 16 = (nd ++ maskL kd nd pd).length := by rw [hl, List.length_append, maskL_len]; omega
  have t1 : (sealL kd nd pd).take ((sealL kd nd pd).length - 16) = nd ++ maskL kd nd pd := by rw [e1]; unfold sealL; exact List.take_left' rfl
  have t2 : (sealL kd nd pd).drop ((sealL kd nd pd).length - 16) = tagL kd (nd ++ maskL kd nd pd) := by rw [e1]; unfold sealL; exact List.drop_left' rfl
  have t3 : (sealL kd nd pd).take 16 = nd := by unfold sealL; rw [List.append_assoc]; exact List.take_left' hn
  have t4 : (nd ++ maskL kd nd pd).drop 16 = maskL kd nd pd := List.drop_left' hn
  have hE : openE kd (sealL kd nd pd) = 0 := by
    unfold openE
    rw [if_neg (by omega), if_neg (by omega), t1, t2, if_pos rfl]
  refine ⟨hE, ?_⟩
  unfold openP
  rw [if_pos hE, t1, t3, t4]
  exact maskL_back kd nd pd hb
end Go.Proofs.YtdjfklllfbenjaaDoor
