/-
  MATHEMATICS of layer 13: the table of some rows may be, has the rows, and is the only one.
-/
import Derived.Test.YtckpbdphilifoaaWi
import Derived.Test.YtckpbdphilifoaaWf
namespace Go.Proofs.Ytckpbdphilifoaa.By
open Go.RowKit
open Mem Gm Rf

/-- Where the row that holds at a place begins. -/
theorem bg_mono {l : List Rn} {p q : Int} (h : p ≤ q) : bg l p ≤ bg l q := by
  rcases Nat.lt_or_ge (bg l q) (bg l p) with h1 | h1
  · have h2 := bg_lt h1
    have h3 := bg_at (l := l) (p := q) (by have := bg_le l p; omega)
    omega
  · exact h1

/-- A table that may be: at each place there is a run, and what begins there begins a new row. -/
theorem win_has {l : List Rn} {n : Nat} {p : Int} (h : WIn l n p) (hl : l.length = n) {i : Int} (h0 : 0 ≤ i) (hp : i < p) : 0 < bg l i := by
  rcases h with ⟨h1, h2⟩ | ⟨h1, h2, _, _⟩
  · omega
  · rcases Nat.eq_zero_or_pos (bg l i) with h3 | h3
    · have := bg_at (l := l) (p := i) (by rw [h3]; omega)
      rw [h3] at this
      unfold fr at h2
      omega
    · exact h3

/-- The runs of a table that may be, by its rows: a run begins at i just if the row is new there. -/
theorem begins_iff {l : List Rn} {n : Nat} {N : Nat} (h : WIn l n (N : Int)) (ht : ¬ Tw l n) (hl : l.length = n) {i : Nat} (hi : i < N) :
    (∃ j, j < n ∧ fr l j = (i : Int)) ↔ (i = 0 ∨ rowV l (i : Int) ≠ rowV l ((i : Int) - 1)) := by
  have hw := win_iff.1 h
  have hr : ∀ j, j < n → 0 < j → fr l (j - 1) < fr l j := fun j hj => (hw.2 j hj).2.2
  have hn0 : 0 < n := hw.1.2 (by omega)
  have hlast : ∀ j, j < n → bg l (fr l j) = j + 1 := fun j hj => by
    refine bg_is (fun t ht2 => ?_) (by omega) (fun hh => ?_)
    · have := win_rise hr (j - t) t (by omega)
      rw [show t + (j - t) = j by omega] at this
      exact this
    · exact hr (j + 1) (by omega) (by omega)
  constructor
  · rintro ⟨j, hj, hf⟩
    rcases Nat.eq_zero_or_pos j with h0 | h0
    · left
      have := (hw.2 0 hn0).2.1 rfl
      rw [h0, this] at hf
      omega
    · right
      have hb := hlast j hj
      rw [hf] at hb
      have hb2 : bg l ((i : Int) - 1) = j := by
        refine bg_is (fun t ht2 => ?_) (by omega) (fun hh => ?_)
        · have h1 := win_rise hr (j - 1 - t) t (by omega)
          rw [show t + (j - 1 - t) = j - 1 by omega] at h1
          have h2 := hr j hj h0
          show fr l t ≤ (i : Int) - 1
          omega
        · show (i : Int) - 1 < fr l j
          omega
      intro he
      unfold rowV at he
      rw [hb, hb2, if_neg (by omega), if_neg (by omega), Nat.add_sub_cancel] at he
      exact ht ⟨j, hj, h0, he⟩
  · intro hnew
    rcases hnew with h0 | hne
    · exact ⟨0, hn0, by rw [(hw.2 0 hn0).2.1 rfl, h0]; rfl⟩
    · rcases Nat.eq_zero_or_pos i with h0 | h0
      · exact ⟨0, hn0, by rw [(hw.2 0 hn0).2.1 rfl, h0]; rfl⟩
      · have hm := bg_mono (l := l) (show (i : Int) - 1 ≤ (i : Int) by omega)
        have hpos := win_has h hl (i := (i : Int) - 1) (by omega) (by omega)
        rcases Nat.lt_or_ge (bg l ((i : Int) - 1)) (bg l (i : Int)) with h1 | h1
        · have h2 := bg_lt h1
          have h3 := bg_at (l := l) (p := (i : Int) - 1) (by have := bg_le l (i : Int); omega)
          refine ⟨bg l ((i : Int) - 1), by have := bg_le l (i : Int); omega, ?_⟩
          unfold fr; omega
        · exfalso
          apply hne
          unfold rowV
          rw [show bg l (i : Int) = bg l ((i : Int) - 1) by omega]

/-- A run's row is that of the place where it begins. -/
theorem run_row {l : List Rn} {n : Nat} {N : Nat} (h : WIn l n (N : Int)) (hl : l.length = n) {j : Nat} (hj : j < n) : rowV l (fr l j) = (rnAt l j).2 ∧ 0 ≤ fr l j ∧ fr l j < (N : Int) := by
  have hw := win_iff.1 h
  have hr : ∀ j, j < n → 0 < j → fr l (j - 1) < fr l j := fun j hj => (hw.2 j hj).2.2
  have hb : bg l (fr l j) = j + 1 := by
    refine bg_is (fun t ht2 => ?_) (by omega) (fun hh => ?_)
    · have := win_rise hr (j - t) t (by omega)
      rw [show t + (j - t) = j by omega] at this
      exact this
    · exact hr (j + 1) (by omega) (by omega)
  have h0 := (hw.2 0 (by omega)).2.1 rfl
  have h1 := win_rise hr j 0 (by omega)
  rw [Nat.zero_add, h0] at h1
  refine ⟨?_, h1, (hw.2 j hj).1⟩
  unfold rowV
  rw [hb, if_neg (by omega), Nat.add_sub_cancel]

theorem rising_eqW : ∀ {a b : List Int}, a.Pairwise (· < ·) → b.Pairwise (· < ·) → (∀ x, x ∈ a ↔ x ∈ b) → a = b
  | [], [], _, _, _ => rfl
  | [], y :: b, _, _, h => by have := (h y).2 (by simp); simp at this
  | x :: a, [], _, _, h => by have := (h x).1 (by simp); simp at this
  | x :: a, y :: b, ha, hb, h => by
    rw [List.pairwise_cons] at ha hb
    have hxy : x = y := by
      have h1 := (h x).1 (by simp)
      have h2 := (h y).2 (by simp)
      rcases List.mem_cons.1 h1 with e | e
      · exact e
      · rcases List.mem_cons.1 h2 with e2 | e2
        · exact e2.symm
        · have := hb.1 x e
          have := ha.1 y e2
          omega
    subst hxy
    rw [rising_eqW ha.2 hb.2 fun z => ?_]
    constructor
    · intro hz
      rcases List.mem_cons.1 ((h z).1 (List.mem_cons_of_mem _ hz)) with e | e
      · have := ha.1 z hz; omega
      · exact e
    · intro hz
      rcases List.mem_cons.1 ((h z).2 (List.mem_cons_of_mem _ hz)) with e | e
      · have := hb.1 z hz; omega
      · exact e

theorem rises_of {l : List Rn} (h : ∀ i, i < l.length → 0 < i → fr l (i - 1) < fr l i) : (l.map (·.1)).Pairwise (· < ·) := by
  rw [List.pairwise_iff_getElem]
  intro i j hi hj hij
  rw [List.length_map] at hi hj
  have key : ∀ t (ht : t < l.length), l[t].1 = fr l t := fun t ht => by
    have := rnAt_some ht
    rw [List.getElem?_eq_getElem ht] at this
    injection this with this
    unfold fr; rw [← this]
  rw [List.getElem_map, List.getElem_map, key i hi, key j hj]
  have h1 := win_rise h (j - 1 - i) i (by omega)
  rw [show i + (j - 1 - i) = j - 1 by omega] at h1
  have h2 := h j hj (by omega)
  omega

/-- Two tables that may be, of the same rows, are one. -/
theorem tables_one {l m : List Rn} {N : Nat} (h : WIn l l.length (N : Int)) (h2 : WIn m m.length (N : Int)) (ht : ¬ Tw l l.length) (ht2 : ¬ Tw m m.length) (he : ∀ i : Nat, i < N → rowV l (i : Int) = rowV m (i : Int)) : l = m := by
  have key : ∀ i : Nat, i < N → ((∃ j, j < l.length ∧ fr l j = (i : Int)) ↔ (∃ j, j < m.length ∧ fr m j = (i : Int))) := fun i hi => by
    rw [begins_iff h ht rfl hi, begins_iff h2 ht2 rfl hi]
    rcases Nat.eq_zero_or_pos i with h0 | h0
    · exact ⟨fun _ => .inl h0, fun _ => .inl h0⟩
    · have e1 := he (i - 1) (by omega)
      rw [show ((i - 1 : Nat) : Int) = (i : Int) - 1 by omega] at e1
      rw [he i hi, e1]
  have hw := win_iff.1 h
  have hw2 := win_iff.1 h2
  have froms : l.map (·.1) = m.map (·.1) := by
    refine rising_eqW ?_ ?_ fun x => ?_
    · exact rises_of (fun j hj h0 => (hw.2 j hj).2.2 h0)
    · exact rises_of (fun j hj h0 => (hw2.2 j hj).2.2 h0)
    · have aux : ∀ {a b : List Rn}, WIn a a.length (N : Int) → (∀ i : Nat, i < N → ((∃ j, j < a.length ∧ fr a j = (i : Int)) → (∃ j, j < b.length ∧ fr b j = (i : Int)))) → x ∈ a.map (·.1) → x ∈ b.map (·.1) := fun {a b} ha hk hx => by
        obtain ⟨y, hy, rfl⟩ := List.mem_map.1 hx
        obtain ⟨j, hj, rfl⟩ := List.getElem_of_mem hy
        have hfj : fr a j = a[j].1 := by
          have := rnAt_some hj
          rw [List.getElem?_eq_getElem hj] at this
          injection this with this
          unfold fr; rw [← this]
        obtain ⟨_, r1, r2⟩ := run_row ha rfl hj
        rw [hfj] at r1 r2
        obtain ⟨t, ht3⟩ : ∃ t : Nat, a[j].1 = (t : Int) := ⟨a[j].1.toNat, by omega⟩
        obtain ⟨j2, hj2, hf2⟩ := hk t (by omega) ⟨j, hj, by rw [hfj, ht3]⟩
        rw [List.mem_map]
        refine ⟨b[j2], List.getElem_mem _, ?_⟩
        have := rnAt_some hj2
        rw [List.getElem?_eq_getElem hj2] at this
        injection this with this
        show b[j2].1 = a[j].1
        rw [this, ht3, ← hf2]; rfl
      exact ⟨aux h fun i hi => (key i hi).1, aux h2 fun i hi => (key i hi).2⟩
  have hlen : l.length = m.length := by have := congrArg List.length froms; simpa using this
  refine list_eq_at rn0 hlen fun i hi => ?_
  have hf : fr l i = fr m i := by
    have e := congrArg (fun z => z[i]?) froms
    simp only [List.getElem?_map] at e
    rw [rnAt_some hi, rnAt_some (by omega)] at e
    simpa [fr] using e
  obtain ⟨r1, r2, r3⟩ := run_row h rfl hi
  obtain ⟨q1, q2, q3⟩ := run_row h2 rfl (show i < m.length by omega)
  obtain ⟨t, ht3⟩ : ∃ t : Nat, fr l i = (t : Int) := ⟨(fr l i).toNat, by omega⟩
  have e2 := he t (by omega)
  rw [← ht3, r1] at e2
  rw [hf, q1] at e2
  show rnAt l i = rnAt m i
  exact Prod.ext hf e2
end Go.Proofs.Ytckpbdphilifoaa.By
