/-
  WALKS of layer 9: the document's own Split and Words.
-/
import Derived.Test.YtnplhpbbdgnmiaaDoorLc
import Derived.Test.YtnplhpbbdgnmiaaDoorMem
import Derived.Test.YtnplhpbbdgnmiaaDoorAp
import Derived.WalkKit
import Derived.ProofKit
import Derived.Lib.Hide
import Derived.BigQuiet
import Derived.Deep.QuietTactic
import Derived.LoopTactic
import Derived.IntWalk
import Derived.WalkLawsBesides
namespace Go.Proofs.YtnplhpbbdgnmiaaDoor.Ln
open Go.RowKit
open Mem

def strs (l : List ByteArray) : List Value := l.map Value.string
theorem strs_snoc (l : List ByteArray) (x : ByteArray) : strs (l ++ [x]) = strs l ++ [.string x] := by simp [strs]
theorem strs_length (l : List ByteArray) : (strs l).length = l.length := by simp [strs]

theorem infoS : (Tryd.prog.info? 9).map (fun i => (i.zero, i.size, i.bytes)) = some (some (.string ByteArray.empty), 1, 16) := by kernel_rfl
theorem info_parts {P : Program} {t : TypeId} {z : Value} {a b : Nat} (h : (P.info? t).map (fun i => (i.zero, i.size, i.bytes)) = some (some z, a, b)) : ∃ i, P.info? t = some i ∧ i.zero = some z ∧ i.size = a ∧ i.bytes = b := by
  cases hi : P.info? t with
  | none => rw [hi] at h; simp at h
  | some i => rw [hi] at h; simp at h; exact ⟨i, rfl, h.1, h.2.1, h.2.2⟩

theorem own_keep {w w' : World} {base : Nat} {E : TypeId} {v : Value} {n : Nat} {xs : List Value} (h : w.ownsRow base E 1 v n xs) (hk : ∀ g, base ≤ g → g < w.heap.size → w'.heap[g]? = w.heap[g]?) : w'.ownsRow base E 1 v n xs := by
  refine ⟨h.1, ?_⟩
  rcases h.2 with h2 | ⟨g, cap, cur, hv, h3, h4, r⟩
  · exact .inl h2
  · exact .inr ⟨g, cap, cur, hv, h3, (hk g h3 (by rw [Array.getElem?_eq_some_iff] at h4; exact h4.1)).trans h4, r⟩

/-- A text built in a block of its own, as a list of one. -/
theorem one_slv (w : World) (x : ByteArray) : SlV (w.alloc (.cells #[.string x] 9)) (w.heap.size + 1) (.slice (some ⟨w.heap.size, 0, none⟩) 1 1) (strs [x]) :=
  SlV.new w [.string x] 9 (by simp [maxLen])
theorem strs_one (x : ByteArray) : ∀ y ∈ strs [x], y.oneCell' = true := fun y hy => by
  simp [strs] at hy; subst hy; rfl

theorem at_sk (s : ByteArray) (k : Nat) (h : k < s.size) : at_ s k = (s[k]'h).toNat := by
  rw [at_get s k h]; simp [ByteArray.getElem_eq_getElem_data]
theorem eq_true {a : Nat} {c : Int} (h : (a : Int) = c) : ((a : Int) == c) = true := by simpa using h
theorem eq_false {a : Nat} {c : Int} (h : ¬ (a : Int) = c) : ((a : Int) == c) = false := by simpa using h

def TAns (l : List ByteArray) (w : World) (e : Ending) (w' : World) : Prop := ∃ v, e = .returned v ∧ w'.ownsRow w.heap.size 9 1 v l.length (strs l) ∧ Below w.heap.size w w'

theorem lsB_count (s : ByteArray) : ∀ i, (lsB s i).1.length ≤ i
  | 0 => Nat.le_refl _
  | i + 1 => by
    have := lsB_count s i
    rw [lsB]
    split
    · simp; omega
    · omega

end Go.Proofs.YtnplhpbbdgnmiaaDoor.Ln
