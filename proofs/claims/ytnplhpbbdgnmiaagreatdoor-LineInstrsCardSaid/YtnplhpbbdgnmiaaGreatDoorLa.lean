/-
  LINES AND WORDS, in plain mathematics: what stands between blanks, by bytes, is what strings.FieldsFunc tells by runes.
-/
import Derived.Test.YtnplhpbbdgnmiaaGreatDoorRows
import Derived.Lib.FieldsP
import Derived.Lib.SpaceUEq
import Derived.Lib.RuneCount
namespace Go.Proofs.YtnplhpbbdgnmiaaGreatDoor.Ln
open Go.Lib

/-- Whether a byte is a blank; the byte at a place. -/
def at_ (s : ByteArray) (i : Nat) : Nat := (s.get! i).toNat

/-- What the document's Words has come to after i bytes: the pieces, and where the next one begins. -/
def spB (s : ByteArray) : Nat → List (Nat × Nat) × Nat
  | 0 => ([], 0)
  | i + 1 => if at_ s i = 32 then ((if (spB s i).2 < i then (spB s i).1 ++ [((spB s i).2, i)] else (spB s i).1), i + 1) else spB s i
def spAll (s : ByteArray) : List (Nat × Nat) := if (spB s s.size).2 < s.size then (spB s s.size).1 ++ [((spB s s.size).2, s.size)] else (spB s s.size).1
def wordsL (s : ByteArray) : List ByteArray := (spAll s).map fun x => s.extract x.1 x.2

theorem spB_le (s : ByteArray) : ∀ i, (spB s i).2 ≤ i
  | 0 => Nat.le_refl _
  | i + 1 => by
    have := spB_le s i
    rw [spB]
    split
    · exact Nat.le_refl _
    · omega

theorem spB_skip (s : ByteArray) (i : Nat) : ∀ k, (∀ j, j < k → at_ s (i + j) ≠ 32) → spB s (i + k) = spB s i
  | 0, _ => rfl
  | k + 1, h => by
    rw [← Nat.add_assoc, spB, if_neg (h k (by omega))]
    exact spB_skip s i k fun j hj => h j (by omega)

/-- A rune that begins at a byte that is no blank: no blank is in it, and it is none. -/
theorem dec_other (s : ByteArray) (i : Nat) (hi : i < s.size) (h : at_ s i ≠ 32) : (Utf8.decode s i).1 ≠ 32 ∧ 1 ≤ (Utf8.decode s i).2 ∧ i + (Utf8.decode s i).2 ≤ s.size ∧ ∀ j, j < (Utf8.decode s i).2 → at_ s (i + j) ≠ 32 := by
  have hw := decode_width_pos s i hi
  rw [decode_at] at hw ⊢
  unfold at_ at h ⊢
  have hc := decodeN_cases (s.size - i) (s.get! i).toNat (s.get! (i + 1)).toNat (s.get! (i + 2)).toNat (s.get! (i + 3)).toNat
  obtain ⟨c2, c3, c4, c5⟩ := decodeN_conts (s.size - i) (s.get! i).toNat (s.get! (i + 1)).toNat (s.get! (i + 2)).toNat (s.get! (i + 3)).toNat
  generalize decodeN (s.size - i) (s.get! i).toNat (s.get! (i + 1)).toNat (s.get! (i + 2)).toNat (s.get! (i + 3)).toNat = d at *
  refine ⟨?_, hw, ?_, fun j hj => ?_⟩
  · rcases hc with ⟨_, e⟩ | ⟨_, _, _, _, e⟩ | ⟨_, _, _, _, _, e⟩ | ⟨e, _⟩ | e
    · rw [e]; exact h
    · rw [e]; simp only; omega
    · rw [e]; simp only; omega
    · omega
    · rw [e]; simp
  · have : d.2 = 1 ∨ d.2 = 2 ∨ d.2 = 3 ∨ d.2 = 4 := by omega
    rcases this with e | e | e | e
    · omega
    · have := c2 (by omega); omega
    · have := c3 (by omega); omega
    · have := c4 (by omega); omega
  · have : j = 0 ∨ j = 1 ∨ j = 2 ∨ j = 3 := by omega
    rcases this with rfl | rfl | rfl | rfl
    · exact h
    · have := c2 (by omega); omega
    · have := c3 (by omega); omega
    · have := c4 (by omega); omega

theorem dec_blank (s : ByteArray) (i : Nat) (h : at_ s i = 32) : Utf8.decode s i = (32, 1) := by
  rw [decode_at]
  unfold at_ at h
  rw [h]
  rcases decodeN_cases (s.size - i) 32 (s.get! (i + 1)).toNat (s.get! (i + 2)).toNat (s.get! (i + 3)).toNat with ⟨_, e⟩ | ⟨e, _⟩ | ⟨e, _⟩ | ⟨e, _⟩ | e
  · exact e
  · omega
  · omega
  · rw [decodeN] at e; simp at e
  · rw [decodeN] at e; simp at e

def blankP (c : Nat) : Bool := c == 32

theorem close_spB (s : ByteArray) : closeSpans s ((spB s s.size).1, if (spB s s.size).2 < s.size then some (spB s s.size).2 else none) = spAll s := by
  unfold spAll
  by_cases h : (spB s s.size).2 < s.size
  · rw [if_pos h, if_pos h]; rfl
  · rw [if_neg h, if_neg h]; rfl

theorem spans_spB (s : ByteArray) : ∀ (f pos : Nat) (st : Option Nat) (acc : List (Nat × Nat)), s.size ≤ pos + f → pos ≤ s.size → (spB s pos).1 = acc → st = (if (spB s pos).2 < pos then some (spB s pos).2 else none) →
    closeSpans s (spansFromP blankP s f pos st acc) = spAll s := by
  intro f
  induction f with
  | zero =>
    intro pos st acc h1 h2 h3 h4
    obtain rfl : pos = s.size := by omega
    rw [spansFromP_end _ _ _ _ _ _ (by omega)]
    subst h3 h4
    exact close_spB s
  | succ f ih =>
    intro pos st acc h1 h2 h3 h4
    by_cases hp : pos < s.size
    · unfold spansFromP
      rw [if_pos hp]
      by_cases hb : at_ s pos = 32
      · rw [dec_blank s pos hb]
        rw [if_pos (show blankP 32 = true from rfl)]
        have hn : spB s (pos + 1) = ((if (spB s pos).2 < pos then (spB s pos).1 ++ [((spB s pos).2, pos)] else (spB s pos).1), pos + 1) := by rw [spB, if_pos hb]
        by_cases ha : (spB s pos).2 < pos
        · rw [if_pos ha] at h4 hn
          subst h4
          refine ih (pos + 1) none _ (by omega) (by omega) ?_ ?_
          · rw [hn, h3]
          · rw [hn]; simp
        · rw [if_neg ha] at h4 hn
          subst h4
          refine ih (pos + 1) none _ (by omega) (by omega) ?_ ?_
          · rw [hn, h3]
          · rw [hn]; simp
      · obtain ⟨d1, d2, d3, d4⟩ := dec_other s pos hp hb
        rw [if_neg (by unfold blankP; simpa using d1)]
        have hn := spB_skip s pos (Utf8.decode s pos).2 d4
        have hle := spB_le s pos
        by_cases ha : (spB s pos).2 < pos
        · rw [if_pos ha] at h4
          subst h4
          refine ih _ _ _ (by omega) d3 (by rw [hn, h3]) ?_
          rw [hn, if_pos (by omega)]
        · rw [if_neg ha] at h4
          subst h4
          refine ih _ _ _ (by omega) d3 (by rw [hn, h3]) ?_
          rw [hn, if_pos (by omega)]
          exact congrArg some (by omega)
    · obtain rfl : pos = s.size := by omega
      rw [spansFromP_end _ _ _ _ _ _ (by omega)]
      subst h3 h4
      exact close_spB s

/-- What strings.FieldsFunc tells is the document's words. -/
theorem fields_words (s : ByteArray) : goFieldsP blankP s = wordsL s := by
  unfold goFieldsP wordsL spansOfP
  rw [spans_spB s s.size 0 none [] (by omega) (Nat.zero_le _) rfl (by simp [spB])]
end Go.Proofs.YtnplhpbbdgnmiaaGreatDoor.Ln
