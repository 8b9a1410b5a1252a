/-
  A PROGRAM IN MEMORY, TO BE READ. WALKS of layer 25's document: In, Rising, refs.
-/
import Derived.Test.YtbcabomblfehlabQg
import Derived.Test.YtbcabomblfehlabPa
namespace Go.Proofs.Ytbcabomblfehlab.Bo
open Go.RowKit Go.Maps
open Mem Rf
set_option linter.unusedSimpArgs false
set_option linter.unusedVariables false

/-- A row of the call's own that is answered. -/
def IOwn (w : World) (L : List Int) (e : Ending) (w' : World) : Prop := ∃ v, e = .returned v ∧ w'.ownsRow w.heap.size 3 1 v L.length (L.flatMap encI) ∧ Below w.heap.size w w'
theorem own_il {w : World} {B : Nat} {v : Value} {L : List Int} (h : w.ownsRow B 3 1 v L.length (L.flatMap encI)) : ∃ A c, v = .slice A L.length c ∧ IL w A L.length c L := wd_own encI_len rfl h
theorem IL.some_ {w : World} {A : Option Addr} {n c : Nat} {l : List Int} (h : IL w A n c l) {i : Nat} (hi : i < n) : ∃ ad, A = some ad := by obtain ⟨ad, e, _⟩ := h.at_ hi; exact ⟨ad, e⟩

/-- Numbers from 0 to less than a bound that are in a list. -/
def rise (m : Nat) (l : List Int) : List Int := ((List.range m).filter fun (i : Nat) => l.contains (i : Int)).map fun (i : Nat) => (i : Int)
theorem rise_succ (m : Nat) (l : List Int) : rise (m + 1) l = rise m l ++ (if l.contains (m : Int) = true then [(m : Int)] else []) := by
  unfold rise
  rw [List.range_succ, List.filter_append, List.map_append]
  by_cases h : l.contains (m : Int) = true
  · rw [if_pos h]; simp only [List.filter_cons, List.filter_nil]; rw [if_pos h]; rfl
  · rw [if_neg h]; simp only [List.filter_cons, List.filter_nil]; rw [if_neg h]; rfl
theorem rise_len (m : Nat) (l : List Int) : (rise m l).length ≤ m := by
  unfold rise; rw [List.length_map]; exact Nat.le_trans (List.length_filter_le _ _) (by simp)
/-- What is gathered of the first k instructions. -/
def gatL (cs : List By.In5) (rs : List Int) (ok : By.In5 → Bool) (k : Nat) : List Int := ((List.range k).filter fun j => ok (By.inAt cs j)).map fun j => rs.getD j 0
theorem gatL_succ (cs : List By.In5) (rs : List Int) (ok : By.In5 → Bool) (k : Nat) : gatL cs rs ok (k + 1) = gatL cs rs ok k ++ (if ok (By.inAt cs k) = true then [rs.getD k 0] else []) := by
  unfold gatL
  rw [List.range_succ, List.filter_append, List.map_append]
  by_cases h : ok (By.inAt cs k) = true
  · rw [if_pos h]; simp only [List.filter_cons, List.filter_nil]; rw [if_pos h]; rfl
  · rw [if_neg h]; simp only [List.filter_cons, List.filter_nil]; rw [if_neg h]; rfl
theorem gatL_len (cs : List By.In5) (rs : List Int) (ok : By.In5 → Bool) (k : Nat) : (gatL cs rs ok k).length ≤ k := by
  unfold gatL; rw [List.length_map]; exact Nat.le_trans (List.length_filter_le _ _) (by simp)
def okN (ns : List Int) (x : By.In5) : Bool := ns.contains (By.ndV x.1)
theorem flatI (l m : List Int) : (l ++ m).flatMap encI = l.flatMap encI ++ m.flatMap encI := List.flatMap_append

end Go.Proofs.Ytbcabomblfehlab.Bo
