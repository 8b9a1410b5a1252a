/-
 Lx2
-/
import Derived.Test.YtdaimeaofgbfpaaGreatZa2
import Derived.Test.YtdaimeaofgbfpaaGreatLv2
set_option linter.unusedSimpArgs false
set_option linter.unusedVariables false
namespace Go.Proofs.YtdaimeaofgbfpaaGreat.Bo
open Go.RowKit Go.Maps
open Mem Rf
theorem reach_step {L : List (List Int)} {fs : List Int} {u v : Nat} (hu : Gm.reach L fs u = true) (hul : u < L.length) (hv : v < L.length) (he : (v : Int) ∈ L.getD u []) : Gm.reach L fs v = true := by
 obtain ⟨t, ht⟩ := (Gm.reach_iff L fs u).1 hu
 exact (Gm.reach_iff L fs v).2 ⟨_, .on u v t ht (Gm.E_iff.2 ⟨hul, hv, he⟩)⟩
theorem reach_start {L : List (List Int)} {z : Nat} (h : z < L.length) : Gm.reach L [(z : Int)] z = true :=
 (Gm.reach_iff L _ z).2 ⟨[], .one z h (by simp)⟩
theorem reach_ind {L : List (List Int)} {fs : List Int} {p : Nat → Prop} (h0 : ∀ a : Nat, (a : Int) ∈ fs → a < L.length → p a) (hs : ∀ u v : Nat, p u → u < L.length → v < L.length → (v : Int) ∈ L.getD u [] → p v) {v : Nat} (h : Gm.reach L fs v = true) : p v := by
 obtain ⟨t, ht⟩ := (Gm.reach_iff L fs v).1 h
 have key : ∀ l, Gm.Walk L (fun a => (a : Int) ∈ fs) l → ∀ v t, l = v :: t → p v := by
  intro l hl
  induction hl with
  | one a ha hS => intro v t e; injection e with e1 e2; subst e1; exact h0 _ hS ha
  | on u v t hw he ih =>
   intro v2 t2 e
   injection e with e1 e2
   subst e1
   have h1 := Gm.E_iff.1 he
   exact hs u v (ih u t rfl) h1.1 h1.2.1 h1.2.2
 exact key _ ht v t rfl
theorem refG_at {P : Pgm} {a : Nat} (h : a < P.fn) : (refG P).getD a [] = refersL P a := by
 unfold refG
 rw [List.getD_eq_getElem?_getD, List.getElem?_map, List.getElem?_range h]; rfl
theorem graphG_at {P : Pgm} {a : Nat} (h : a < P.fn) : (graphG P).getD a [] = edgL P a := by
 unfold graphG
 rw [List.getD_eq_getElem?_getD, List.getElem?_map, List.getElem?_range h]; rfl
theorem live_lt {P : Pgm} {k : Nat} (h : liveB P k = true) : k < P.fn := by
 unfold liveB at h
 have := reach_ind (p := fun v => v < (refG P).length) (fun a _ h => h) (fun _ _ _ _ h _ => h) h
 rwa [refG_len] at this
theorem live_step {P : Pgm} {a k : Nat} (h : liveB P a = true) (hk : k < P.fn) (he : (k : Int) ∈ directL P a ∨ (k : Int) ∈ valuesL P a) : liveB P k = true := by
 have ha := live_lt h
 unfold liveB at h ⊢
 refine reach_step h (by rw [refG_len]; exact ha) (by rw [refG_len]; exact hk) ?_
 rw [refG_at ha]
 unfold refersL
 exact mem_riseN.2 ⟨hk, List.mem_append.2 he⟩
theorem taken_live {P : Pgm} {k : Nat} (hk : k < P.fn) (h : takenB P k = true) : liveB P k = true := by
 unfold takenB at h
 rw [List.any_eq_true] at h
 obtain ⟨a, ha, h2⟩ := h
 exact live_step (mem_marks.1 ha).2 hk (.inr (by simpa using h2))
theorem edge_in {P : Pgm} {i : Nat} {z : Int} (h : z ∈ edgL P i) : liveB P i = true ∧ ∃ k : Nat, k < P.fn ∧ z = (k : Int) ∧ liveB P k = true := by
 unfold edgL at h
 cases hl : liveB P i with
 | false => rw [hl] at h; simp at h
 | true =>
  rw [hl, if_pos rfl] at h
  refine ⟨rfl, ?_⟩
  obtain ⟨k, hk, rfl⟩ := rise_nat h
  refine ⟨k, hk, rfl, ?_⟩
  rcases List.mem_append.1 (mem_riseN.1 h).2 with h1 | h1
  ·exact live_step hl hk (.inl h1)
  ·unfold byC at h1
   simp only [List.mem_map, List.mem_filter, List.mem_range, Bool.and_eq_true] at h1
   obtain ⟨c, ⟨h2, h3, _⟩, e⟩ := h1
   obtain rfl : c = k := by omega
   exact taken_live hk h3
theorem called_live {P : Pgm} {k : Nat} (h : calledB P k = true) : liveB P k = true := by
 unfold calledB at h
 refine reach_ind (p := fun v => liveB P v = true) (fun a ha hl => ?_) (fun u v _ hu hv he => ?_) h
 ·rw [graphG_len] at hl
  have e : (a : Int) = P.entry := by simpa using ha
  unfold liveB
  rw [← e]
  exact reach_start (by rw [refG_len]; exact hl)
 ·rw [graphG_len] at hu hv
  rw [graphG_at hu] at he
  obtain ⟨_, k, _, e, h2⟩ := edge_in he
  obtain rfl : v = k := by omega
  exact h2
theorem edge_called {P : Pgm} {i k : Nat} (h : calledB P i = true) (hi : i < P.fn) (hk : k < P.fn) (he : (k : Int) ∈ edgL P i) : calledB P k = true := by
 unfold calledB at h ⊢
 exact reach_step h (by rw [graphG_len]; exact hi) (by rw [graphG_len]; exact hk) (by rw [graphG_at hi]; exact he)
theorem entry_live {P : Pgm} {z : Nat} (e : P.entry = (z : Int)) (h : z < P.fn) : liveB P z = true := by
 unfold liveB; rw [e]; exact reach_start (by rw [refG_len]; exact h)
theorem entry_called {P : Pgm} {z : Nat} (e : P.entry = (z : Int)) (h : z < P.fn) : calledB P z = true := by
 unfold calledB; rw [e]; exact reach_start (by rw [graphG_len]; exact h)
theorem blist_at {f : Nat → Bool} {n i : Nat} (h : i < n) : ((List.range n).map f).getD i false = f i := by
 rw [List.getD_eq_getElem?_getD, List.getElem?_map, List.getElem?_range h]; rfl
theorem reach_less {L L' : List (List Int)} {fs : List Int} (hl : L'.length = L.length) (he : ∀ u, u < L.length → ∀ z, z ∈ L'.getD u [] → z ∈ L.getD u []) {v : Nat} (h : Gm.reach L' fs v = true) : Gm.reach L fs v = true := by
 have := reach_ind (p := fun v => v < L.length ∧ Gm.reach L fs v = true) (fun a ha hal => ?_) (fun u v hu hul hvl hm => ?_) h
 ·exact this.2
 ·rw [hl] at hal
  exact ⟨hal, (Gm.reach_iff L _ a).2 ⟨[], .one a hal ha⟩⟩
 ·rw [hl] at hvl
  exact ⟨hvl, reach_step hu.2 hu.1 hvl (he u hu.1 _ hm)⟩
end Go.Proofs.YtdaimeaofgbfpaaGreat.Bo
