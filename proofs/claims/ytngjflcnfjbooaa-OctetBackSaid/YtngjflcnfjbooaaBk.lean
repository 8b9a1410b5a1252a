/-
  WHAT WAS PUT IS READ: plain mathematics on the words of the readers' walks.
-/
import Derived.Test.YtngjflcnfjbooaaOp
namespace Go.Proofs.Ytngjflcnfjbooaa.By
open Go.ChangeShapes Go.WideShapes Go.ChangeAt Go.RowKit
open Mem

theorem be_cons (k : Nat) : ∀ x : Int, be x (k + 1) = byteI (x / 256 ^ k) :: be x k := by
  induction k with
  | zero => intro x; simp [be]
  | succ k ih =>
    intro x
    have e : x / 256 / 256 ^ k = x / 256 ^ (k + 1) := by
      rw [Int.ediv_ediv_of_nonneg (by decide), Int.pow_succ, Int.mul_comm]
    rw [be, ih (x / 256), e]
    rfl

theorem acc_step (z : Int) (hz : -9223372036854775808 ≤ z ∧ z ≤ 9223372036854775807) : wrap64 (z / 256 * 256) + ((byteI z).toNat : Int) = z := by
  rw [byteI_toNat]
  unfold wrap64
  omega

theorem div_bd (x : Int) (k : Nat) (hx : -9223372036854775808 ≤ x ∧ x ≤ 9223372036854775807) : -9223372036854775808 ≤ x / 256 ^ k ∧ x / 256 ^ k ≤ 9223372036854775807 := by
  induction k with
  | zero => simpa using hx
  | succ k ih =>
    rw [Int.pow_succ, ← Int.ediv_ediv_of_nonneg (Int.le_of_lt (Int.pow_pos (by decide)))]
    omega

theorem acc_all (k : Nat) : ∀ x : Int, -9223372036854775808 ≤ x ∧ x ≤ 9223372036854775807 → acc (x / 256 ^ k) (be x k) = x := by
  induction k with
  | zero => intro x _; simp [be, acc]
  | succ k ih =>
    intro x hx
    have hz := div_bd x k hx
    have e : x / 256 ^ (k + 1) = x / 256 ^ k / 256 := by
      rw [Int.pow_succ, Int.ediv_ediv_of_nonneg (Int.le_of_lt (Int.pow_pos (by decide)))]
    rw [be_cons, acc, e, acc_step _ hz]
    exact ih x hx

theorem sgn_head (z : Int) (h : -128 ≤ z ∧ z < 128) : sgn ((byteI z).toNat : Int) = z := by
  rw [byteI_toNat]
  unfold sgn
  split <;> omega

theorem numV_cons (b : UInt8) (r : List UInt8) : numV true (b :: r) = acc (sgn (b.toNat : Int)) r := by simp [numV]

/-- A number that has room in k + 1 bytes, with a sign, is read as it was. -/
theorem num_back (x : Int) (k : Nat) (hx : -9223372036854775808 ≤ x ∧ x ≤ 9223372036854775807) (h : -128 ≤ x / 256 ^ k ∧ x / 256 ^ k < 128) : numV true (be x (k + 1)) = x := by
  rw [be_cons]
  rw [numV_cons, sgn_head _ h]
  exact acc_all k x hx

/-- All that is put. -/
def whole (x : Int) (k : Nat) (s : ByteArray) (more : List UInt8) : List UInt8 := be x k ++ (UInt8.ofNat s.size :: s.data.toList) ++ more

theorem whole_length (x : Int) (k : Nat) (s : ByteArray) (more : List UInt8) : (whole x k s more).length = k + (1 + s.size) + more.length := by
  unfold whole
  rw [List.length_append, List.length_append, be_length, List.length_cons, ← size_list]
  omega

theorem whole_num (x : Int) (k : Nat) (s : ByteArray) (more : List UInt8) (hk : k + 1 ≤ 8) (hx : -9223372036854775808 ≤ x ∧ x ≤ 9223372036854775807) (h : -128 ≤ x / 256 ^ k ∧ x / 256 ^ k < 128) :
    readV true (whole x (k + 1) s more) 0 true ((k : Int) + 1) = x ∧ readP (whole x (k + 1) s more) 0 true ((k : Int) + 1) = k + 1 ∧ fitsB (whole x (k + 1) s more) 0 true ((k : Int) + 1) = true := by
  have hf : fitsB (whole x (k + 1) s more) 0 true ((k : Int) + 1) = true := by
    unfold fitsB
    rw [whole_length]
    simp
    omega
  have e : ((k : Int) + 1).toNat = k + 1 := by omega
  unfold readV readP
  rw [hf, if_pos rfl, if_pos rfl, e, List.drop_zero]
  refine ⟨?_, by omega, rfl⟩
  have ht : (whole x (k + 1) s more).take (k + 1) = be x (k + 1) := by
    unfold whole
    rw [List.append_assoc, List.take_append_of_le_length (by rw [be_length]; exact Nat.le_refl _), List.take_of_length_le (by rw [be_length]; exact Nat.le_refl _)]
  rw [ht]
  exact num_back x k hx h

theorem whole_text (x : Int) (k : Nat) (s : ByteArray) (more : List UInt8) (hs : s.size ≤ 255) :
    textV (whole x k s more) k true 255 = s.data.toList ∧ textP (whole x k s more) k true 255 = k + (1 + s.size) ∧ fitsT (whole x k s more) k true 255 = true := by
  have hlen := whole_length x k s more
  have hk : k < (whole x k s more).length := by omega
  have hd : (whole x k s more).drop k = UInt8.ofNat s.size :: (s.data.toList ++ more) := by
    unfold whole
    rw [List.append_assoc, List.drop_append_of_le_length (by rw [be_length]; exact Nat.le_refl _), List.drop_of_length_le (by rw [be_length]; exact Nat.le_refl _)]
    simp
  have hg : (whole x k s more)[k] = UInt8.ofNat s.size := by
    have h2 : ((whole x k s more).drop k)[0]? = some (UInt8.ofNat s.size) := by rw [hd]; rfl
    rw [List.getElem?_drop] at h2
    have h3 := List.getElem?_eq_getElem hk
    rw [Nat.add_zero] at h2
    rw [h3] at h2
    injection h2
  have hn : (UInt8.ofNat s.size).toNat = s.size := by simp; omega
  have hf : fitsT (whole x k s more) k true 255 = true := by
    unfold fitsT
    simp only [Bool.true_and, decide_eq_true_eq]
    exact ⟨hk, by rw [hg, hn]; omega, by rw [hg, hn]; omega⟩
  have hgd : (whole x k s more).getD k 0 = UInt8.ofNat s.size := by
    rw [← hg]; simp [List.getD, hk]
  unfold textV textP
  rw [hf, if_pos rfl, if_pos rfl, hgd, hn]
  refine ⟨?_, rfl, rfl⟩
  have hd2 : (whole x k s more).drop (k + 1) = s.data.toList ++ more := by
    rw [← List.drop_drop, hd]; rfl
  rw [hd2, List.take_append_of_le_length (by rw [← size_list]; exact Nat.le_refl _), List.take_of_length_le (by rw [← size_list]; exact Nat.le_refl _)]

theorem putB_lit (x : Int) (k : Nat) (h : k + 1 ≤ 8) : putB x ((k : Int) + 1) = be x (k + 1) := by
  unfold putB
  rw [if_pos (by omega), show ((k : Int) + 1).toNat = k + 1 from by omega]

theorem same_text (s : ByteArray) : (⟨s.data.toList.toArray⟩ : ByteArray) = s := rfl

theorem room0 (n : Int) : (-9223372036854775808 ≤ wrap64 (n * 72057594037927936) / 72057594037927936 ∧ wrap64 (n * 72057594037927936) / 72057594037927936 ≤ 9223372036854775807) ∧ (-128 ≤ (wrap64 (n * 72057594037927936) / 72057594037927936) / 256 ^ 0 ∧ (wrap64 (n * 72057594037927936) / 72057594037927936) / 256 ^ 0 < 128) := by
  unfold wrap64
  rw [show (256 : Int) ^ 0 = 1 from by decide]
  omega

theorem room1 (n : Int) : (-9223372036854775808 ≤ wrap64 (n * 281474976710656) / 281474976710656 ∧ wrap64 (n * 281474976710656) / 281474976710656 ≤ 9223372036854775807) ∧ (-128 ≤ (wrap64 (n * 281474976710656) / 281474976710656) / 256 ^ 1 ∧ (wrap64 (n * 281474976710656) / 281474976710656) / 256 ^ 1 < 128) := by
  unfold wrap64
  rw [show (256 : Int) ^ 1 = 256 from by decide]
  omega

theorem room2 (n : Int) : (-9223372036854775808 ≤ wrap64 (n * 1099511627776) / 1099511627776 ∧ wrap64 (n * 1099511627776) / 1099511627776 ≤ 9223372036854775807) ∧ (-128 ≤ (wrap64 (n * 1099511627776) / 1099511627776) / 256 ^ 2 ∧ (wrap64 (n * 1099511627776) / 1099511627776) / 256 ^ 2 < 128) := by
  unfold wrap64
  rw [show (256 : Int) ^ 2 = 65536 from by decide]
  omega

theorem room3 (n : Int) : (-9223372036854775808 ≤ wrap64 (n * 4294967296) / 4294967296 ∧ wrap64 (n * 4294967296) / 4294967296 ≤ 9223372036854775807) ∧ (-128 ≤ (wrap64 (n * 4294967296) / 4294967296) / 256 ^ 3 ∧ (wrap64 (n * 4294967296) / 4294967296) / 256 ^ 3 < 128) := by
  unfold wrap64
  rw [show (256 : Int) ^ 3 = 16777216 from by decide]
  omega

theorem room4 (n : Int) : (-9223372036854775808 ≤ wrap64 (n * 16777216) / 16777216 ∧ wrap64 (n * 16777216) / 16777216 ≤ 9223372036854775807) ∧ (-128 ≤ (wrap64 (n * 16777216) / 16777216) / 256 ^ 4 ∧ (wrap64 (n * 16777216) / 16777216) / 256 ^ 4 < 128) := by
  unfold wrap64
  rw [show (256 : Int) ^ 4 = 4294967296 from by decide]
  omega

theorem room5 (n : Int) : (-9223372036854775808 ≤ wrap64 (n * 65536) / 65536 ∧ wrap64 (n * 65536) / 65536 ≤ 9223372036854775807) ∧ (-128 ≤ (wrap64 (n * 65536) / 65536) / 256 ^ 5 ∧ (wrap64 (n * 65536) / 65536) / 256 ^ 5 < 128) := by
  unfold wrap64
  rw [show (256 : Int) ^ 5 = 1099511627776 from by decide]
  omega

theorem room6 (n : Int) : (-9223372036854775808 ≤ wrap64 (n * 256) / 256 ∧ wrap64 (n * 256) / 256 ≤ 9223372036854775807) ∧ (-128 ≤ (wrap64 (n * 256) / 256) / 256 ^ 6 ∧ (wrap64 (n * 256) / 256) / 256 ^ 6 < 128) := by
  unfold wrap64
  rw [show (256 : Int) ^ 6 = 281474976710656 from by decide]
  omega

theorem room7 (n : Int) : (-9223372036854775808 ≤ wrap64 n ∧ wrap64 n ≤ 9223372036854775807) ∧ (-128 ≤ (wrap64 n) / 256 ^ 7 ∧ (wrap64 n) / 256 ^ 7 < 128) := by
  unfold wrap64
  rw [show (256 : Int) ^ 7 = 72057594037927936 from by decide]
  omega
end Go.Proofs.Ytngjflcnfjbooaa.By
