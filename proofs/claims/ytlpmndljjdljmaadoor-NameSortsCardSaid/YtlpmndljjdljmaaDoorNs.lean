/-
  THE ORDER OF TEXTS, of no program: lists that rise are told by their members; what Sort answers rises, and has the names.
-/
import Derived.Test.YtlpmndljjdljmaaDoorNi
namespace Go.Proofs.YtlpmndljjdljmaaDoor.By
open Go.RowKit
open Nam

abbrev Bs := List UInt8

theorem lt_of_le_ne {a b : Bs} (h : a ≤ b) (hn : a ≠ b) : a < b := by
  rcases Decidable.em (a < b) with h1 | h1
  · exact h1
  · exact absurd (List.le_antisymm h (List.not_lt.1 h1)) hn

theorem le_lt_trans {a b c : Bs} (h : a ≤ b) (h2 : b < c) : a < c := by
  by_cases e : a = b
  · rw [e]; exact h2
  · exact List.lt_trans (lt_of_le_ne h e) h2

/-- Two lists that rise, with the same members, are one. -/
theorem rising_eq : ∀ {a b : List Bs}, a.Pairwise (· < ·) → b.Pairwise (· < ·) → (∀ x, x ∈ a ↔ x ∈ b) → a = b
  | [], [], _, _, _ => rfl
  | [], y :: b, _, _, h => absurd ((h y).2 List.mem_cons_self) (by simp)
  | x :: a, [], _, _, h => absurd ((h x).1 List.mem_cons_self) (by simp)
  | x :: a, y :: b, ha, hb, h => by
    rw [List.pairwise_cons] at ha hb
    have e : x = y := by
      rcases List.mem_cons.1 ((h x).1 List.mem_cons_self) with e | hx
      · exact e
      · rcases List.mem_cons.1 ((h y).2 List.mem_cons_self) with e | hy
        · exact e.symm
        · exact absurd (List.lt_trans (ha.1 y hy) (hb.1 x hx)) (List.lt_irrefl _)
    subst e
    have ht : ∀ z, z ∈ a ↔ z ∈ b := fun z => by
      constructor
      · intro hz
        rcases List.mem_cons.1 ((h z).1 (List.mem_cons_of_mem _ hz)) with e | h2
        · subst e; exact absurd (ha.1 _ hz) (List.lt_irrefl _)
        · exact h2
      · intro hz
        rcases List.mem_cons.1 ((h z).2 (List.mem_cons_of_mem _ hz)) with e | h2
        · subst e; exact absurd (hb.1 _ hz) (List.lt_irrefl _)
        · exact h2
    rw [rising_eq ha.2 hb.2 ht]

theorem getB (zs : List Bs) (j : Nat) (h : j < zs.length) : zs.toArray[j]! = zs[j] := by
  rw [getElem!_pos zs.toArray j (by simpa using h)]; simp

theorem compact_rises (zs : List Bs) (h : zs.Pairwise (· ≤ ·)) : (Lib.compact zs).Pairwise (· < ·) := by
  unfold Lib.compact Lib.compactUpTo
  rw [List.pairwise_map]
  have h1 : ((List.range zs.length).filter (Lib.keeps zs.toArray)).Pairwise (· < ·) := List.Pairwise.filter _ List.pairwise_lt_range
  refine List.Pairwise.imp_of_mem ?_ h1
  intro i j hi hj hij
  obtain ⟨hir, _⟩ := List.mem_filter.1 hi
  obtain ⟨hjr, hk⟩ := List.mem_filter.1 hj
  rw [List.mem_range] at hir hjr
  have hk2 : zs.toArray[j]! ≠ zs.toArray[j - 1]! := by
    simp only [Lib.keeps, decide_eq_true_eq] at hk
    rcases hk with e | e
    · omega
    · exact e
  rw [getB zs j hjr, getB zs (j - 1) (by omega)] at hk2
  rw [getB zs i hir, getB zs j hjr]
  have hle : ∀ (p q : Nat) (hp : p < zs.length) (hq : q < zs.length), p ≤ q → zs[p] ≤ zs[q] := fun p q hp hq hpq => by
    by_cases e : p = q
    · subst e; exact List.le_refl _
    · exact List.pairwise_iff_getElem.1 h p q hp hq (by omega)
  exact le_lt_trans (hle i (j - 1) hir (by omega) (by omega)) (lt_of_le_ne (hle (j - 1) j (by omega) hjr (by omega)) (fun e => hk2 e.symm))

theorem mem_compact (zs : List Bs) (x : Bs) : x ∈ Lib.compact zs ↔ x ∈ zs := by
  unfold Lib.compact Lib.compactUpTo
  constructor
  · intro h
    obtain ⟨j, hj, rfl⟩ := List.mem_map.1 h
    have hjr := List.mem_range.1 (List.mem_filter.1 hj).1
    rw [getB zs j hjr]
    exact List.getElem_mem hjr
  · intro h
    obtain ⟨j, hj, rfl⟩ := List.getElem_of_mem h
    have key : ∀ j, j < zs.length → zs.toArray[j]! ∈ ((List.range zs.length).filter (Lib.keeps zs.toArray)).map (zs.toArray[·]!) := by
      intro j
      induction j with
      | zero => intro hj; exact List.mem_map.2 ⟨0, List.mem_filter.2 ⟨List.mem_range.2 hj, by simp [Lib.keeps]⟩, rfl⟩
      | succ j ih =>
        intro hj
        by_cases e : zs.toArray[j + 1]! = zs.toArray[j]!
        · rw [e]; exact ih (by omega)
        · exact List.mem_map.2 ⟨j + 1, List.mem_filter.2 ⟨List.mem_range.2 hj, by simp only [Lib.keeps, decide_eq_true_eq]; exact .inr e⟩, rfl⟩
    have := key j hj
    rwa [getB zs j hj] at this

theorem sort_rises (l : List Bs) : (sortV l).Pairwise (· < ·) := by
  refine compact_rises _ ?_
  have h := List.pairwise_mergeSort (le := fun (x y : Bs) => decide (x ≤ y)) (fun a b c h1 h2 => by simp only [decide_eq_true_eq] at *; exact List.le_trans h1 h2) (fun a b => by simp only [Bool.or_eq_true, decide_eq_true_eq]; exact List.le_total a b) (names l)
  exact h.imp (fun h => by simpa using h)

theorem mem_sort (l : List Bs) (x : Bs) : x ∈ sortV l ↔ x ∈ l ∧ odd x = false := by
  unfold sortV
  rw [mem_compact, List.mem_mergeSort]
  unfold names
  rw [List.mem_filter]
  simp
end Go.Proofs.YtlpmndljjdljmaaDoor.By
