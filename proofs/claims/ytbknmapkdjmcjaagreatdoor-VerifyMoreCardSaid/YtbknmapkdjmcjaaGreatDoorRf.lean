/-
  WALK: the document's own reader of numbers (function 26): what it answers is what octet's reader answers.
-/
import Derived.Test.YtbknmapkdjmcjaaGreatDoorRp
import Derived.Test.YtbknmapkdjmcjaaGreatDoorRm
namespace Go.Proofs.YtbknmapkdjmcjaaGreatDoor.By
open Go.ChangeShapes Go.WideShapes Go.ChangeAt Go.RowKit
open Mem

/-- Bytes as a number from 0 on. -/
def natV (us : List UInt8) : Nat := us.foldl (fun n b => n * 256 + b.toNat) 0

theorem natV_snoc (us : List UInt8) (b : UInt8) : natV (us ++ [b]) = natV us * 256 + b.toNat := by simp [natV]

theorem foldl_nat (r : List UInt8) : ∀ n : Nat, r.foldl (fun n b => n * 256 + b.toNat) n = n * 256 ^ r.length + natV r := by
  induction r with
  | nil => intro n; simp [natV]
  | cons x r ih =>
    intro n
    rw [List.foldl_cons, ih]
    show _ = n * 256 ^ (r.length + 1) + List.foldl (fun n b => n * 256 + b.toNat) (0 * 256 + x.toNat) r
    rw [ih, Nat.zero_mul, Nat.zero_add, Nat.add_mul, Nat.pow_succ, Nat.mul_assoc, Nat.mul_comm 256, Nat.add_assoc]

theorem natV_cons (x : UInt8) (r : List UInt8) : natV (x :: r) = x.toNat * 256 ^ r.length + natV r := by
  show List.foldl (fun n b => n * 256 + b.toNat) (0 * 256 + x.toNat) r = _
  rw [foldl_nat, Nat.zero_mul, Nat.zero_add]

theorem natV_lt (us : List UInt8) : natV us < 256 ^ us.length := by
  induction us with
  | nil => simp [natV]
  | cons x r ih =>
    rw [natV_cons, List.length_cons, Nat.pow_succ]
    have hx := x.toNat_lt
    have : x.toNat * 256 ^ r.length ≤ 255 * 256 ^ r.length := Nat.mul_le_mul_right _ (by omega)
    omega

theorem wrap_in (z : Int) (h : -9223372036854775808 ≤ z ∧ z ≤ 9223372036854775807) : wrap64 z = z := by
  unfold wrap64; omega

theorem wrap_again (a b k : Int) (h : a = b + 18446744073709551616 * k) : wrap64 a = wrap64 b := by
  unfold wrap64; omega

/-- What is read, byte behind byte, is the number that the bytes are, gone round. -/
theorem acc_val (r : List UInt8) : ∀ n : Int, -9223372036854775808 ≤ n ∧ n ≤ 9223372036854775807 → acc n r = wrap64 (n * 256 ^ r.length + natV r) := by
  induction r with
  | nil => intro n hn; simp [acc, natV, wrap_in n hn]
  | cons x r ih =>
    intro n hn
    have hx := x.toNat_lt
    have hb : -9223372036854775808 ≤ wrap64 (n * 256) + (x.toNat : Int) ∧ wrap64 (n * 256) + (x.toNat : Int) ≤ 9223372036854775807 := by
      unfold wrap64; omega
    obtain ⟨q, hq⟩ : ∃ q : Int, wrap64 (n * 256) = n * 256 + 18446744073709551616 * q := ⟨-((n * 256 + 9223372036854775808) / 18446744073709551616), by unfold wrap64; omega⟩
    rw [acc, ih _ hb, hq, natV_cons, List.length_cons, Int.pow_succ]
    refine wrap_again _ _ (q * 256 ^ r.length) ?_
    rw [Int.natCast_add, Int.natCast_mul, Int.natCast_pow]
    simp only [Int.add_mul, Int.mul_assoc, Int.add_assoc]
    rw [Int.mul_comm 256 (256 ^ r.length)]
    generalize n * (256 ^ r.length * 256) = t1
    generalize q * 256 ^ r.length = t2
    generalize (x.toNat : Int) * ((256 : Nat) : Int) ^ r.length = t3
    omega

theorem numV_cons0 (b : UInt8) (r : List UInt8) : numV false (b :: r) = acc (b.toNat : Int) r := by simp [numV]
theorem numV_cons1 (b : UInt8) (r : List UInt8) : numV true (b :: r) = acc (sgn (b.toNat : Int)) r := by simp [numV]

/-- The number that bytes are, without a sign. -/
theorem numV_plain (x : UInt8) (r : List UInt8) : numV false (x :: r) = wrap64 (natV (x :: r)) := by
  have hx := x.toNat_lt
  have hb : -9223372036854775808 ≤ (x.toNat : Int) ∧ (x.toNat : Int) ≤ 9223372036854775807 := by omega
  rw [numV_cons0, acc_val r _ hb, natV_cons, Int.natCast_add, Int.natCast_mul, Int.natCast_pow]
  rfl

theorem numV_sign (x : UInt8) (r : List UInt8) : numV true (x :: r) = wrap64 ((natV (x :: r) : Int) - if 128 ≤ x.toNat then 256 ^ (r.length + 1) else 0) := by
  have hx := x.toNat_lt
  have hs : -9223372036854775808 ≤ sgn (x.toNat : Int) ∧ sgn (x.toNat : Int) ≤ 9223372036854775807 := by
    unfold sgn; split <;> omega
  rw [numV_cons1, acc_val r _ hs, natV_cons]
  refine congrArg wrap64 ?_
  rw [Int.natCast_add, Int.natCast_mul, Int.natCast_pow]
  unfold sgn
  by_cases h : 128 ≤ x.toNat
  · rw [if_neg (by omega), if_pos h, Int.sub_mul, Int.pow_succ, Int.mul_comm 256]
    simp only [Int.cast_ofNat_Int]
    omega
  · rw [if_pos (by omega), if_neg h]
    simp

/-- The document's reader behind a read. -/
def RNum (w : World) (A : Option Addr) (n c p : Nat) (bad : Bool) (z : Int) (e : Ending) (w' : World) : Prop :=
  e = .returned (.tuple #[.agg #[.slice A n c, .int .i64 p, .bool bad], .int .i64 z]) ∧ Below w.heap.size w w'

set_option maxRecDepth 100000 in
set_option maxHeartbeats 1000000 in
theorem rnum_no (w : World) (A : Option Addr) (n c p : Nat) (bad sg : Bool) (k : Int) (hp : p ≤ n) (hn : n ≤ 1099511627776) (h : bad = true ∨ k < 1 ∨ 8 < k ∨ (n : Int) - p < k) :
    Calls Tryz.prog 86 #[.agg #[.slice A n c, .int .i64 p, .bool bad], .int .i64 k, .bool sg] w (RNum w A n c p true 0) := by
  have hd : bad = true ∨ (bad = false ∧ k < 1) ∨ (bad = false ∧ decide (k < 1) = false ∧ ¬ k < 1 ∧ decide (8 < k) = true) ∨ (bad = false ∧ decide (k < 1) = false ∧ ¬ k < 1 ∧ decide (8 < k) = false ∧ decide ((n : Int) - p < k) = true) := by
    cases bad <;> simp only [decide_eq_true_eq, decide_eq_false_iff_not] <;> simp at h ⊢ <;> omega
  clear h
  rcases hd with rfl | ⟨rfl, hd⟩ | ⟨rfl, hd, hd1, hd2⟩ | ⟨rfl, hd, hd1, hd2, hd3⟩
  all_goals
    go_enter Tryz.func86, Tryz.ntmps86
    go_wp2
    refine bodyPost_ret (v := .tuple #[.agg #[.slice A n c, .int .i64 p, .bool true], .int .i64 0]) (by simp [results, Tryz.results86, go_sem]) rfl ⟨rfl, ?_⟩
    go_grown
end Go.Proofs.YtbknmapkdjmcjaaGreatDoor.By
