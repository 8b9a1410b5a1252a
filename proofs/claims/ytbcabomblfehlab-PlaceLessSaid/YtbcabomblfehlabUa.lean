/-
  MATHEMATICS of layer 29: where things stand that follow one another.
-/
import Derived.Test.YtbcabomblfehlabTf
namespace Go.Proofs.Ytbcabomblfehlab.Bo
open Go.RowKit Go.Maps
open Mem Rf
set_option linter.unusedSimpArgs false
set_option linter.unusedVariables false

/-- Where the things of sizes s stand, the first one at f. -/
def stV (s : Nat → Int) (f : Int) : Nat → Int
  | 0 => f
  | k + 1 => stV s f k + s k
theorem stV_in {s : Nat → Int} {f : Int} {n : Nat} (h : ∀ k, k < n → 0 ≤ s k ∧ s k ≤ 2000) : ∀ k, k ≤ n → f ≤ stV s f k ∧ stV s f k ≤ f + 2000 * (k : Int)
  | 0, _ => by simp [stV]
  | k + 1, hk => by
    have h1 := stV_in (f := f) h k (by omega)
    have h2 := h k (by omega)
    simp only [stV]
    omega
theorem stV_mono {s : Nat → Int} {f : Int} {n : Nat} (h : ∀ k, k < n → 0 ≤ s k) : ∀ {a b : Nat}, a ≤ b → b ≤ n → stV s f a ≤ stV s f b
  | a, b, hab, hb => by
    induction b with
    | zero => have : a = 0 := by omega
              subst this; exact Int.le_refl _
    | succ b ih =>
      by_cases h1 : a = b + 1
      · subst h1; exact Int.le_refl _
      · have h2 := ih (by omega) (by omega)
        have h3 := h b (by omega)
        simp only [stV]; omega
theorem stV_le {s t : Nat → Int} {f : Int} {n : Nat} (h : ∀ k, k < n → t k ≤ s k) : ∀ k, k ≤ n → stV t f k ≤ stV s f k
  | 0, _ => Int.le_refl _
  | k + 1, hk => by
    have h1 := stV_le (f := f) h k (by omega)
    have h2 := h k (by omega)
    simp only [stV]; omega
/-- The things that have a size. -/
def told (s : Nat → Int) (n : Nat) : List Nat := (List.range n).filter fun k => decide (0 < s k)
theorem told_take {s : Nat → Int} {k : Nat} (h : 0 < s k) : told s (k + 1) = told s k ++ [k] := by
  unfold told; rw [List.range_succ, List.filter_append]; simp [h]
theorem told_skip {s : Nat → Int} {k : Nat} (h : ¬ 0 < s k) : told s (k + 1) = told s k := by
  unfold told; rw [List.range_succ, List.filter_append]; simp [h]
theorem told_pre {s : Nat → Int} {n : Nat} : ∀ {k : Nat}, k ≤ n → told s k <+: told s n := by
  intro k hk
  induction n with
  | zero => have : k = 0 := by omega
            subst this; exact List.prefix_refl _
  | succ n ih =>
    by_cases h : k = n + 1
    · subst h; exact List.prefix_refl _
    · refine (ih (by omega)).trans ?_
      by_cases h1 : 0 < s n
      · rw [told_take h1]; exact List.prefix_append _ _
      · rw [told_skip h1]; exact List.prefix_refl _
theorem mem_told {s : Nat → Int} {n k : Nat} : k ∈ told s n ↔ k < n ∧ 0 < s k := by
  unfold told; simp
theorem told_of {s : Nat → Int} {n : Nat} {pre : List Nat} {x : Nat} (h : pre ++ [x] <+: told s n) : x < n ∧ 0 < s x :=
  mem_told.1 (h.subset (by simp))
/-- Behind the last one of some. -/
def lastV : List Nat → Nat
  | [] => 0
  | l => l.getLastD 0 + 1
theorem lastV_put (l : List Nat) (x : Nat) : lastV (l ++ [x]) = x + 1 := by
  cases l with
  | nil => rfl
  | cons a l =>
    show (a :: l ++ [x]).getLastD 0 + 1 = x + 1
    rw [List.getLastD_eq_getLast?, List.getLast?_append]
    rfl
theorem stV_last {s : Nat → Int} {f : Int} : ∀ {n : Nat}, (∀ k, k < n → 0 ≤ s k) → stV s f (lastV (told s n)) = stV s f n := by
  intro n
  induction n with
  | zero => intro _; rfl
  | succ n ih =>
    intro h
    by_cases h1 : 0 < s n
    · rw [told_take h1, lastV_put]
    · rw [told_skip h1, ih (fun k hk => h k (by omega))]
      have := h n (by omega)
      simp only [stV]; omega
/-- Those that have a size follow one another: where the j-th one of them starts, the one ahead ends. -/
theorem told_follow {s : Nat → Int} {f : Int} : ∀ {n : Nat}, (∀ k, k < n → 0 ≤ s k) → ∀ {j : Nat}, j < (told s n).length → stV s f ((told s n).getD j 0) = stV s f (lastV ((told s n).take j)) := by
  intro n
  induction n with
  | zero => intro _ j hj; simp [told] at hj
  | succ n ih =>
    intro h j hj
    by_cases h1 : 0 < s n
    · rw [told_take h1] at hj ⊢
      by_cases h2 : j < (told s n).length
      · rw [List.take_append_of_le_length (by omega), List.getD_eq_getElem?_getD, List.getElem?_append_left h2, ← List.getD_eq_getElem?_getD]
        exact ih (fun k hk => h k (by omega)) h2
      · have h3 : j = (told s n).length := by simp at hj; omega
        subst h3
        rw [List.take_left, List.getD_eq_getElem?_getD, List.getElem?_append_right (Nat.le_refl _)]
        simp only [Nat.sub_self, List.getElem?_cons_zero, Option.getD_some]
        exact (stV_last (fun k hk => h k (by omega))).symm
    · rw [told_skip h1] at hj ⊢
      exact ih (fun k hk => h k (by omega)) hj
theorem told_len {s : Nat → Int} {n : Nat} : (told s n).length ≤ n := by
  unfold told; exact Nat.le_trans (List.length_filter_le _ _) (by simp)

/-- How many instructions a function has in an image, by its number. -/
def szf (P : Pgm) (p : Pn) (k : Nat) : Int := sizeV P p (k : Int)
theorem szf_pos {P : Pgm} {p : Pn} {k : Nat} : 0 < szf P p k ↔ keptV P p (k : Int) = true := by
  unfold szf
  cases h : keptV P p (k : Int) with
  | false => rw [sizeV_no h]; simp
  | true => rw [sizeV_yes h]; simp; split <;> omega
theorem szf_in {P : Pgm} {p : Pn} {n : Nat} (hcd : ∀ a, a < n → (gfAt P.fs a).F.code.2.1 ≤ 1000) : ∀ k, k < n → 0 ≤ szf P p k ∧ szf P p k ≤ 2000 := by
  intro k hk
  have := hcd k hk
  unfold szf
  cases h : keptV P p (k : Int) with
  | false => rw [sizeV_no h]; omega
  | true => rw [sizeV_yes h]; split <;> omega
theorem szf_code {P : Pgm} {p : Pn} {k : Nat} (h : 0 < szf P p k) : szf P p k = ((gfAt P.fs k).F.code.2.1 : Int) + 1 + (if p.cs.getD k 0 ≠ 0 then 1 else 0) := sizeV_yes (szf_pos.1 h)
/-- Where a function starts. -/
def startV (P : Pgm) (p : Pn) (k : Nat) : Int := if 0 < szf P p k then stV (szf P p) 2 k else -1
def startsL (P : Pgm) (p : Pn) : List Int := (List.range P.fn).map (startV P p)
def codeV (P : Pgm) (p : Pn) : Int := stV (szf P p) 2 P.fn
/-- How many words data have, with the one ahead. -/
def dzf (P : Pgm) (k : Nat) : Int := 1 + ((gdAt P.ds k).D.words.2.1 : Int)
def addrsL (P : Pgm) : List Int := (List.range P.dn).map (stV (dzf P) 0)
def wordsV (P : Pgm) : Int := stV (dzf P) 0 P.dn
theorem dzf_in {P : Pgm} {n : Nat} (hw : ∀ a, a < n → (gdAt P.ds a).D.words.2.1 ≤ 1000) : ∀ k, k < n → 0 ≤ dzf P k ∧ dzf P k ≤ 2000 := by
  intro k hk
  have := hw k hk
  unfold dzf; omega
theorem dzf_pos (P : Pgm) (k : Nat) : 0 < dzf P k := by unfold dzf; omega
theorem told_all {s : Nat → Int} : ∀ {n : Nat}, (∀ k, k < n → 0 < s k) → told s n = List.range n
  | 0, _ => rfl
  | n + 1, h => by rw [told_take (h n (by omega)), told_all (fun k hk => h k (by omega)), List.range_succ]
/-- A function of an image. -/
structure F6 where
  fi : Int
  it : Int
  st : Int
  bo : Int
  en : Int
  fr : Int
def encF6 (x : F6) : List Value := [.int .i64 x.fi, .int .i64 x.it, .int .i64 x.st, .int .i64 x.bo, .int .i64 x.en, .int .i64 x.fr]
theorem encF6_len (x : F6) : (encF6 x).length = 6 := rfl
def fnO (P : Pgm) (p : Pn) (k : Nat) : F6 := ⟨((gfAt P.fs k).file : Int), ((gfAt P.fs k).item : Int), stV (szf P p) 2 k, stV (szf P p) 2 (k + 1) - ((gfAt P.fs k).F.code.2.1 : Int), stV (szf P p) 2 (k + 1), frV (gfAt P.fs k).F⟩
def fnsL (P : Pgm) (p : Pn) : List F6 := (told (szf P p) P.fn).map (fnO P p)
end Go.Proofs.Ytbcabomblfehlab.Bo
