/-
  WORDS, in plain mathematics, by lists of bytes: of texts put together.
-/
import Derived.Test.YtnplhpbbdgnmiaaGreatDoorLz
namespace Go.Proofs.YtnplhpbbdgnmiaaGreatDoor.Ln
open Go.RowKit
open Mem Go.Lib

/-- The words of a list of bytes, cur being the word that is under way. -/
def wl : List UInt8 → List UInt8 → List (List UInt8)
  | cur, [] => if cur = [] then [] else [cur]
  | cur, c :: r => if c = 32 then (if cur = [] then wl [] r else cur :: wl [] r) else wl (cur ++ [c]) r

theorem wl_app : ∀ (a cur b : List UInt8), wl cur (a ++ 32 :: b) = wl cur a ++ wl [] b
  | [], cur, b => by
    rw [List.nil_append]
    by_cases h : cur = []
    · subst h; simp [wl]
    · simp [wl, h]
  | c :: a, cur, b => by
    rw [List.cons_append, wl, wl]
    by_cases hc : c = 32
    · rw [if_pos hc, if_pos hc, wl_app a [] b]
      by_cases h : cur = []
      · rw [if_pos h, if_pos h]
      · rw [if_neg h, if_neg h]; rfl
    · rw [if_neg hc, if_neg hc]; exact wl_app a _ b

/-- A word: something, and no blank in it. -/
def Wd (x : List UInt8) : Prop := x ≠ [] ∧ (32 : UInt8) ∉ x
theorem wl_wd : ∀ (l cur : List UInt8), (32 : UInt8) ∉ cur → ∀ x ∈ wl cur l, Wd x
  | [], cur, hc, x, hx => by
    rw [wl] at hx
    split at hx
    · cases hx
    · rename_i h
      rw [List.mem_singleton] at hx; subst hx; exact ⟨h, hc⟩
  | c :: r, cur, hc, x, hx => by
    rw [wl] at hx
    split at hx
    · split at hx
      · exact wl_wd r [] (by simp) x hx
      · rename_i h
        rcases List.mem_cons.1 hx with rfl | hx
        · exact ⟨h, hc⟩
        · exact wl_wd r [] (by simp) x hx
    · rename_i h
      exact wl_wd r _ (by simp [hc]; exact fun e => h e.symm) x hx
theorem wl_one : ∀ (x cur : List UInt8), (32 : UInt8) ∉ x → wl cur x = if cur ++ x = [] then [] else [cur ++ x]
  | [], cur, _ => by rw [wl, List.append_nil]
  | c :: x, cur, h => by
    have h1 : c ≠ 32 := fun e => h (by simp [e])
    rw [wl, if_neg h1, wl_one x _ (fun e => h (by simp [e]))]
    simp
theorem wl_word {x : List UInt8} (h : Wd x) : wl [] x = [x] := by
  rw [wl_one x [] h.2, List.nil_append, if_neg h.1]

theorem at_list (s : ByteArray) (i : Nat) (h : i < s.size) : s.data.toList[i]? = some (s[i]'h) := by
  have hl : i < s.data.toList.length := by rw [len_list]; exact h
  rw [List.getElem?_eq_getElem hl]; simp [ByteArray.getElem_eq_getElem_data]

theorem ext_list (s : ByteArray) (a b : Nat) : (s.extract a b).data.toList = (s.data.toList.drop a).take (b - a) := by
  rw [ByteArray.data_extract, Array.toList_extract, List.extract_eq_take_drop]

theorem spB_wl (s : ByteArray) : ∀ i, i ≤ s.size → ((spB s i).1.map fun x => (s.extract x.1 x.2).data.toList) ++ wl ((s.data.toList.drop (spB s i).2).take (i - (spB s i).2)) (s.data.toList.drop i) = wl [] s.data.toList := by
  intro i
  induction i with
  | zero => intro _; simp [spB]
  | succ i ih =>
    intro hi
    have h1 := ih (by omega)
    have hle := spB_le s i
    have hx := at_list s i (by omega)
    have hd : s.data.toList.drop i = (s[i]'(by omega)) :: s.data.toList.drop (i + 1) := drop_at hx
    rw [hd, wl] at h1
    have hat : at_ s i = (s[i]'(by omega)).toNat := at_sk s i (by omega)
    have hi1 : i < s.data.toList.length := by rw [len_list]; omega
    rw [spB]
    by_cases hc : at_ s i = 32
    · have hc2 : (s[i]'(by omega)) = 32 := UInt8.toNat_inj.1 (by rw [← hat, hc]; rfl)
      rw [if_pos hc2] at h1
      rw [if_pos hc]
      simp only
      by_cases hlt : (spB s i).2 < i
      · have hne : (s.data.toList.drop (spB s i).2).take (i - (spB s i).2) ≠ [] := fun e => by
          have := congrArg List.length e
          rw [List.length_take, List.length_drop] at this; simp only [List.length_nil] at this; omega
        rw [if_neg hne] at h1
        rw [if_pos hlt, ← h1]
        simp
      · have he : i - (spB s i).2 = 0 := by omega
        rw [he, List.take_zero, if_pos rfl] at h1
        rw [if_neg hlt, ← h1]
        simp
    · have hc2 : ¬ (s[i]'(by omega)) = 32 := fun e => hc (by rw [hat, e]; rfl)
      rw [if_neg hc2] at h1
      rw [if_neg hc, ← h1]
      congr 2
      have he : i + 1 - (spB s i).2 = (i - (spB s i).2) + 1 := by omega
      rw [he, List.take_add_one, List.getElem?_drop, show (spB s i).2 + (i - (spB s i).2) = i by omega, hx]
      rfl

theorem words_wl (s : ByteArray) : (wordsL s).map (·.data.toList) = wl [] s.data.toList := by
  have h := spB_wl s s.size (Nat.le_refl _)
  rw [← h]
  have hle := spB_le s s.size
  have hd : s.data.toList.drop s.size = [] := List.drop_of_length_le (by rw [len_list]; exact Nat.le_refl _)
  rw [hd, wl]
  unfold wordsL spAll
  by_cases hlt : (spB s s.size).2 < s.size
  · have hne : (s.data.toList.drop (spB s s.size).2).take (s.size - (spB s s.size).2) ≠ [] := fun e => by
      have := congrArg List.length e
      rw [List.length_take, List.length_drop, len_list] at this; simp only [List.length_nil] at this; omega
    rw [if_pos hlt, if_neg hne]
    simp
  · have he : s.size - (spB s s.size).2 = 0 := by omega
    rw [if_neg hlt, he, List.take_zero, if_pos rfl]
    simp

theorem map_inj {l l2 : List ByteArray} (h : l.map (·.data.toList) = l2.map (·.data.toList)) : l = l2 := by
  induction l generalizing l2 with
  | nil => cases l2 with
    | nil => rfl
    | cons _ _ => simp at h
  | cons x l ih => cases l2 with
    | nil => simp at h
    | cons y l2 =>
      simp only [List.map_cons, List.cons.injEq] at h
      rw [ba_ext h.1, ih h.2]

theorem word_wd (s : ByteArray) : ∀ x ∈ wordsL s, Wd x.data.toList := fun x hx => by
  have h : x.data.toList ∈ wl [] s.data.toList := by rw [← words_wl]; exact List.mem_map.2 ⟨x, hx, rfl⟩
  exact wl_wd _ [] (by simp) _ h

/-- The words of joined texts are the words of all. -/
theorem wl_join : ∀ (l : List (List UInt8)), wl [] (Lib.join l [32]) = l.flatMap (wl [])
  | [] => by simp [Lib.join, wl]
  | [x] => by simp [Lib.join, List.intercalate]
  | x :: y :: l => by
    have h : Lib.join (x :: y :: l) [32] = x ++ 32 :: Lib.join (y :: l) [32] := by simp [Lib.join, List.intercalate]
    rw [h, wl_app, wl_join (y :: l)]; rfl

theorem words_join (l : List ByteArray) : wordsL (joinB l) = l.flatMap wordsL := by
  apply map_inj
  rw [words_wl]
  have h1 : (joinB l).data.toList = Lib.join (l.map (·.data.toList)) [32] := by simp [joinB]
  rw [h1, wl_join, List.map_flatMap, List.flatMap_map]
  congr 1
  funext x
  exact (words_wl x).symm

theorem words_self {l : List ByteArray} (h : ∀ x ∈ l, Wd x.data.toList) : l.flatMap wordsL = l := by
  induction l with
  | nil => rfl
  | cons x l ih =>
    rw [List.flatMap_cons, ih fun y hy => h y (by simp [hy])]
    have : wordsL x = [x] := map_inj (by rw [words_wl, wl_word (h x (by simp))]; rfl)
    rw [this]; rfl
end Go.Proofs.YtnplhpbbdgnmiaaGreatDoor.Ln
