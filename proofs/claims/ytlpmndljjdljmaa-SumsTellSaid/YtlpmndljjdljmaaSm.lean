/-
  SUMS OF BYTES, of no program: the two numbers of a sum, byte by byte; 'or' of what was shifted up by 16 and a number below that adds; one byte that is another one turns the first number.
-/
import Derived.WalkKit
namespace Go.Proofs.Ytlpmndljjdljmaa.Sm
open Go.RowKit

def stepA (s : Nat × Nat) (x : UInt8) : Nat × Nat := ((s.1 + x.toNat) % 65521, (s.2 + (s.1 + x.toNat) % 65521) % 65521)

/-- The two numbers of a sum. -/
def sm (l : List UInt8) : Nat × Nat := l.foldl stepA (1, 0)

/-- The sum of bytes. -/
def sumV (l : List UInt8) : Nat := (sm l).2 * 65536 + (sm l).1

theorem sm_snoc (l : List UInt8) (x : UInt8) : sm (l ++ [x]) = stepA (sm l) x := by
  unfold sm; rw [List.foldl_append]; rfl

theorem fold_lt (l : List UInt8) : ∀ s : Nat × Nat, s.1 < 65521 → s.2 < 65521 → (l.foldl stepA s).1 < 65521 ∧ (l.foldl stepA s).2 < 65521 := by
  induction l with
  | nil => intro s h1 h2; exact ⟨h1, h2⟩
  | cons x l ih => intro s _ _; exact ih _ (Nat.mod_lt _ (by omega)) (Nat.mod_lt _ (by omega))

theorem sm_lt (l : List UInt8) : (sm l).1 < 65521 ∧ (sm l).2 < 65521 := fold_lt l (1, 0) (by decide) (by decide)

theorem sumV_lt (l : List UInt8) : sumV l < 4294967296 := by
  have := sm_lt l; unfold sumV; omega

theorem take_next (l m : List UInt8) (k : Nat) (h : k < m.length) : l ++ m.take (k + 1) = (l ++ m.take k) ++ [m[k]] := by
  rw [List.append_assoc, List.take_succ_eq_append_getElem h]

theorem next1 (l m : List UInt8) (k : Nat) (h : k < m.length) : (sm (l ++ m.take (k + 1))).1 = ((sm (l ++ m.take k)).1 + m[k].toNat) % 65521 := by
  rw [take_next l m k h, sm_snoc]; rfl

theorem next2 (l m : List UInt8) (k : Nat) (h : k < m.length) : (sm (l ++ m.take (k + 1))).2 = ((sm (l ++ m.take k)).2 + (sm (l ++ m.take (k + 1))).1) % 65521 := by
  rw [take_next l m k h, sm_snoc]; rfl

theorem or16 (b a : Nat) (hb : b < 65521) (ha : a < 65521) : bits .or .i64 ((b : Int) * 65536) (a : Int) = ((b * 65536 + a : Nat) : Int) := by
  have h1 : (BitVec.ofInt 64 ((b : Int) * 65536)).toNat = 2 ^ 16 * b := by
    rw [show (b : Int) * 65536 = ((65536 * b : Nat) : Int) by omega, BitVec.ofInt_natCast, BitVec.toNat_ofNat]; exact Nat.mod_eq_of_lt (by omega)
  have h2 : (BitVec.ofInt 64 (a : Int)).toNat = a := by
    rw [BitVec.ofInt_natCast, BitVec.toNat_ofNat]; exact Nat.mod_eq_of_lt (by omega)
  show IntKind.i64.wrap ((BitVec.ofInt 64 ((b : Int) * 65536) ||| BitVec.ofInt 64 (a : Int)).toNat : Int) = _
  have h3 : 2 ^ 16 * b ||| a = 2 ^ 16 * b + a := (Nat.two_pow_add_eq_or_of_lt (i := 16) (by omega) b).symm
  rw [BitVec.toNat_or, h1, h2, h3, IntKind.wrap_i64]
  omega

theorem fold_fst (l : List UInt8) : ∀ s : Nat × Nat, s.1 < 65521 → (l.foldl stepA s).1 = (s.1 + (l.map (·.toNat)).sum) % 65521 := by
  induction l with
  | nil => intro s h; simp; omega
  | cons x l ih =>
    intro s h
    rw [List.foldl_cons, ih _ (Nat.mod_lt _ (by omega))]
    simp only [stepA, List.map_cons, List.sum_cons]
    omega

theorem sm_fst (l : List UInt8) : (sm l).1 = (1 + (l.map (·.toNat)).sum) % 65521 := fold_fst l (1, 0) (by decide)

theorem sum_set (l : List UInt8) (i : Nat) (h : i < l.length) (x : UInt8) : ((l.set i x).map (·.toNat)).sum + l[i].toNat = (l.map (·.toNat)).sum + x.toNat := by
  induction l generalizing i with
  | nil => simp at h
  | cons y l ih =>
    cases i with
    | zero => simp; omega
    | succ i =>
      have := ih i (by simpa using h)
      simp only [List.set_cons_succ, List.map_cons, List.sum_cons, List.getElem_cons_succ]
      omega

/-- One byte that is another one turns the sum. -/
theorem sum_told (l : List UInt8) (i : Nat) (h : i < l.length) (x : UInt8) (hx : x ≠ l[i]) : sumV (l.set i x) ≠ sumV l := by
  have h1 := sm_fst l
  have h2 := sm_fst (l.set i x)
  have h3 := sum_set l i h x
  have hn : x.toNat ≠ l[i].toNat := fun e => hx (UInt8.toNat_inj.1 e)
  have b1 := x.toNat_lt
  have b2 := l[i].toNat_lt
  have l1 := sm_lt l
  have l2 := sm_lt (l.set i x)
  unfold sumV
  generalize (List.map (·.toNat) (l.set i x)).sum = p at *
  generalize (List.map (·.toNat) l).sum = q at *
  omega
end Go.Proofs.Ytlpmndljjdljmaa.Sm
