/-
  LINES, in plain mathematics: what strings.Split tells at one byte, and what strings.Join makes.
-/
import Derived.Test.YtnplhpbbdgnmiaaGreatDoorLa
import Derived.Lib.SplitLaws
import Derived.Lib.Join
namespace Go.Proofs.YtnplhpbbdgnmiaaGreatDoor.Ln
open Go.Lib

/-- The parts of a text at a byte. -/
def partL (c : UInt8) : List UInt8 → List (List UInt8)
  | [] => [[]]
  | b :: l => if b = c then [] :: partL c l else match partL c l with | h :: t => (b :: h) :: t | [] => [[b]]

theorem partL_ne (c : UInt8) : ∀ l, partL c l ≠ []
  | [] => by simp [partL]
  | b :: l => by
    rw [partL]
    split
    · simp
    · split <;> simp

theorem index_cons (b c : UInt8) (l : List UInt8) (h : b ≠ c) : index (b :: l) [c] = if index l [c] == -1 then -1 else index l [c] + 1 := by
  have hp : ([c] : List UInt8).isPrefixOf (b :: l) = false := by simp [List.isPrefixOf, Ne.symm h]
  rw [index, hp]; simp

theorem splitK_part (c : UInt8) : ∀ l : List UInt8, splitK [c] 0 (count l [c]) l = partL c l
  | [] => by rw [count_miss (by simp [index])]; rfl
  | b :: l => by
    have ih := splitK_part c l
    by_cases h : b = c
    · subst h
      have hix : index (b :: l) [b] = ((0 : Nat) : Int) := by rw [index]; simp [List.isPrefixOf]
      rw [count_cons_eq, Nat.add_comm, splitK, if_neg (by rw [hix]; decide), hix, partL, if_pos rfl]
      simpa using ih
    · rw [count_cons_ne b c l h, partL, if_neg h]
      by_cases hm : index l [c] = -1
      · rw [count_miss hm] at ih ⊢
        rw [← ih]
        simp [splitK]
      · have hge := index_ge l [c]
        obtain ⟨j, hj⟩ : ∃ j : Nat, index l [c] = j := ⟨(index l [c]).toNat, by omega⟩
        have hix' : index (b :: l) [c] = ((j + 1 : Nat) : Int) := by rw [index_cons b c l h, if_neg (fun e => hm (beq_iff_eq.1 e)), hj]; omega
        have hc := count_hit (sub := [c]) (by simp) hj
        rw [Nat.add_comm] at hc
        rw [hc, splitK, if_neg (fun e => hm (beq_iff_eq.1 e)), hj] at ih
        rw [hc, splitK, if_neg (by rw [hix']; simp; omega), hix', ← ih]
        simp

/-- What the document's Split has come to after i bytes: the lines that are ended, and where the next one begins. -/
def lsB (s : ByteArray) : Nat → List (Nat × Nat) × Nat
  | 0 => ([], 0)
  | i + 1 => if at_ s i = 10 then ((lsB s i).1 ++ [((lsB s i).2, i)], i + 1) else lsB s i
theorem lsB_le (s : ByteArray) : ∀ i, (lsB s i).2 ≤ i
  | 0 => Nat.le_refl _
  | i + 1 => by
    have := lsB_le s i
    rw [lsB]
    split
    · exact Nat.le_refl _
    · omega
def pc (s : ByteArray) (x : Nat × Nat) : ByteArray := s.extract x.1 x.2
def linesL (s : ByteArray) : List ByteArray := (if (lsB s s.size).2 < s.size then (lsB s s.size).1 ++ [((lsB s s.size).2, s.size)] else (lsB s s.size).1).map (pc s)

theorem at_get (s : ByteArray) (i : Nat) (h : i < s.size) : at_ s i = (s.data.toList[i]'(by simpa using h)).toNat := by
  obtain ⟨a⟩ := s
  show (a[i]!).toNat = _
  rw [getElem!_pos a i h]
  simp

theorem part_lsB (s : ByteArray) : ∀ i, i ≤ s.size → ∃ h t, partL 10 (s.data.toList.drop i) = h :: t ∧
    partL 10 s.data.toList = ((lsB s i).1.map fun x => (pc s x).data.toList) ++ ((s.extract (lsB s i).2 i).data.toList ++ h) :: t := by
  intro i
  induction i with
  | zero =>
    intro _
    cases hp : partL 10 s.data.toList with
    | nil => exact absurd hp (partL_ne _ _)
    | cons h t => exact ⟨h, t, by simpa using hp, by simp [lsB]⟩
  | succ i ih =>
    intro hi
    obtain ⟨h, t, h1, h2⟩ := ih (by omega)
    have hlen : i < s.data.toList.length := by simpa using (show i < s.size by omega)
    have hd : s.data.toList.drop i = s.data.toList[i] :: s.data.toList.drop (i + 1) := List.drop_eq_getElem_cons hlen
    rw [hd, partL] at h1
    have ha := at_get s i (by omega)
    by_cases hb : s.data.toList[i] = 10
    · rw [if_pos hb] at h1
      have hb' : at_ s i = 10 := by rw [ha, hb]; rfl
      injection h1 with e1 e2
      subst e1
      cases hp : partL 10 (s.data.toList.drop (i + 1)) with
      | nil => exact absurd hp (partL_ne _ _)
      | cons h' t' =>
        refine ⟨h', t', rfl, ?_⟩
        rw [h2, lsB, if_pos hb', ← e2, hp]
        simp [pc]
    · rw [if_neg hb] at h1
      have hb' : ¬ at_ s i = 10 := fun e => hb (by
        rw [ha] at e
        exact UInt8.toNat_inj.1 (by rw [e]; rfl))
      cases hp : partL 10 (s.data.toList.drop (i + 1)) with
      | nil => exact absurd hp (partL_ne _ _)
      | cons h' t' =>
        rw [hp] at h1
        simp only at h1
        injection h1 with e1 e2
        subst e1 e2
        refine ⟨h', t', rfl, ?_⟩
        rw [h2, lsB, if_neg hb']
        have hle := lsB_le s i
        have hx : (s.extract (lsB s i).2 (i + 1)).data.toList = (s.extract (lsB s i).2 i).data.toList ++ [s.data.toList[i]] := by
          rw [extract_data, extract_data]
          have e : i + 1 - (lsB s i).2 = (i - (lsB s i).2) + 1 := by omega
          rw [e, List.take_succ_eq_append_getElem (by rw [List.length_drop]; omega), List.getElem_drop]
          congr 2
          have : (lsB s i).2 + (i - (lsB s i).2) = i := by omega
          simp [this]
        rw [hx]
        simp
end Go.Proofs.YtnplhpbbdgnmiaaGreatDoor.Ln
