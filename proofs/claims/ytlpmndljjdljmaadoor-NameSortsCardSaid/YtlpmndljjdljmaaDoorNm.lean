/-
  NAMES, of no program: which texts are names.
-/
import Derived.WalkKit
namespace Go.Proofs.YtlpmndljjdljmaaDoor.Nam
open Go.RowKit

/-- A digit, as a rune. -/
def digR (c : Int) : Bool := decide (48 ≤ c ∧ c ≤ 57)

/-- What may stand in a name, as a rune. -/
def mayR (c : Int) : Bool := decide ((97 ≤ c ∧ c ≤ 122) ∨ (48 ≤ c ∧ c ≤ 57) ∨ c = 95 ∨ c = 46)

/-- May it stand there, at that place? -/
def okAt (j : Nat) (x : UInt8) : Bool := mayR x.toNat && !(decide (j = 0) && digR x.toNat)

/-- Has the text a name's bytes, however many? -/
def spelt (l : List UInt8) : Bool := decide (l ≠ [] ∧ ∀ j (h : j < l.length), okAt j l[j] = true)

/-- What keeps a text from being a name. -/
def checkV (l : List UInt8) : Int := if 24 < l.length then 6 else if spelt l then 0 else 7

theorem okAt_eq (j : Nat) (x : UInt8) : okAt j x = true ↔ mayR x.toNat = true ∧ (j = 0 → digR x.toNat = false) := by
  unfold okAt
  by_cases h : j = 0 <;> simp [h]

theorem not_spelt {l : List UInt8} {j : Nat} (h : j < l.length) (hn : okAt j l[j] = false) : spelt l = false := by
  unfold spelt
  rw [decide_eq_false_iff_not]
  intro hh
  have := hh.2 j h
  rw [hn] at this
  cases this

theorem is_spelt {l : List UInt8} (h : ∀ j (h : j < l.length), okAt j l[j] = true) : spelt l = !l.isEmpty := by
  unfold spelt
  cases l with
  | nil => simp
  | cons x l => simp; exact fun j hj => h j (by simpa using hj)

theorem no_may_high (c : Int) (h : 128 ≤ c) : mayR c = false := by
  unfold mayR; simp; omega
end Go.Proofs.YtlpmndljjdljmaaDoor.Nam
