/-
  WALK: Way.
-/
import Derived.Test.YtfgnlemoodfgoaaGj
namespace Go.Proofs.Ytfgnlemoodfgoaa.By
open Go.RowKit
open Mem Gm Rf
attribute [local go_sem] Oper.semAt_some

/-- Of what is told each place comes behind the one ahead of it. -/
structure Inv3 (g : List (List Int)) (fs : List Int) (L : List (Nat × List Nat)) (q : List (Int × List Nat)) : Prop where
  base : Inv1 g fs L q
  pre : ∀ p s, p ++ [s] <+: L → s.2 = [] ∨ ∃ u t, s.2 = u :: t ∧ (u, t) ∈ p

theorem told_pre (g : List (List Int)) (fs : List Int) : Inv3 g fs (told g fs) [] := by
  have := bfs_ind g (Inv3 g fs) ?_ ?_ (fuel g fs.length) [] (fs.map fun c => (c, [])) ?_ (by simp [mu, fuel])
  · exact this
  · intro L p t q h h1 h2
    refine ⟨inv1_yes g fs L p t q h.base h1 h2, fun pr s hs => ?_⟩
    by_cases hlen : (pr ++ [s]).length ≤ L.length
    · exact h.pre pr s (List.prefix_of_prefix_length_le hs (List.prefix_append _ _) hlen)
    · have e : pr ++ [s] = L ++ [(p.toNat, t)] := hs.eq_of_length (by have := hs.length_le; simp at this hlen ⊢; omega)
      obtain ⟨e1, e2⟩ := List.append_inj' e rfl
      injection e2 with e2
      subst e1 e2
      rcases h.base.wait _ (List.mem_cons_self) with ⟨h3, _⟩ | ⟨u, t', h3, h4, _⟩
      · exact .inl h3
      · exact .inr ⟨u, t', h3, h4⟩
  · intro L p t q h h1
    exact ⟨inv1_no g fs L p t q h.base h1, h.pre⟩
  · refine ⟨?_, fun p s h => by simp at h⟩
    refine ⟨by simp, fun s hs => ?_, by simp, fun c hc _ => .inr (List.mem_map.2 ⟨c, hc, rfl⟩), by simp⟩
    obtain ⟨c, hc, rfl⟩ := List.mem_map.1 hs
    exact .inl ⟨rfl, hc⟩

/-- A list that is closed: what is ahead of one of it is of it. -/
def Closed (P : List (Nat × List Nat)) : Prop := ∀ s ∈ P, s.2 = [] ∨ ∃ u t, s.2 = u :: t ∧ (u, t) ∈ P

theorem closed_of {g : List (List Int)} {fs : List Int} {P : List (Nat × List Nat)} (h : P <+: told g fs) : Closed P := by
  intro s hs
  obtain ⟨a, b, rfl⟩ := List.append_of_mem hs
  have : a ++ [s] <+: told g fs := List.IsPrefix.trans ⟨b, by simp⟩ h
  rcases (told_pre g fs).pre a s this with h1 | ⟨u, t, h1, h2⟩
  · exact .inl h1
  · exact .inr ⟨u, t, h1, List.mem_append.2 (.inl h2)⟩

theorem chain_of {P : List (Nat × List Nat)} (h : Closed P) : ∀ (i : Nat) (s : Nat × List Nat), s ∈ P → ∀ y, (pth s)[i]? = some y → (y, (pth s).drop (i + 1)) ∈ P := by
  intro i
  induction i with
  | zero =>
    intro s hs y hy
    obtain ⟨a, t⟩ := s
    simp [pth] at hy
    subst hy
    exact hs
  | succ i ih =>
    intro s hs y hy
    obtain ⟨a, t⟩ := s
    rcases h _ hs with h1 | ⟨u, t', h1, h2⟩
    · simp only at h1; subst h1; simp [pth] at hy
    · simp only at h1; subst h1
      exact ih (u, t') h2 y hy

/-- The places ahead, as they lie. -/
def ahdOf (P : List (Nat × List Nat)) (i : Nat) : Int := match P.find? (fun s => s.1 == i) with | some s => ahd s.2 | none => 0
def aheads (n : Nat) (P : List (Nat × List Nat)) : Array Value := ((List.range n).map fun i => Value.int .i64 (ahdOf P i)).toArray
theorem aheads_at {n i : Nat} (P : List (Nat × List Nat)) (hi : i < n) : (aheads n P)[i]? = some (.int .i64 (ahdOf P i)) := by simp [aheads, hi]
theorem aheads_nil (n : Nat) : aheads n [] = Array.replicate n (.int .i64 0) := by
  apply Array.ext
  · simp [aheads]
  · intro i h1 h2; simp [aheads, ahdOf]
theorem aheads_set {n a : Nat} (P : List (Nat × List Nat)) (t : List Nat) (ha : a ∉ P.map (·.1)) : (aheads n P).setIfInBounds a (.int .i64 (ahd t)) = aheads n (P ++ [(a, t)]) := by
  apply Array.ext
  · simp [aheads]
  · intro i h1 h2
    have hi : i < n := by simpa [aheads] using h2
    rw [Array.getElem_setIfInBounds (by simpa [aheads] using hi)]
    by_cases e : a = i
    · subst e
      have : P.find? (fun s => s.1 == a) = none := List.find?_eq_none.2 fun s hs he => ha (List.mem_map.2 ⟨s, hs, by simpa using he⟩)
      simp [aheads, ahdOf, List.find?_append, this]
    · rw [if_neg e]
      have hne : (a == i) = false := by simpa using e
      simp only [aheads, List.getElem_toArray, List.getElem_map, List.getElem_range, ahdOf, List.find?_append]
      have : [(a, t)].find? (fun s => s.1 == i) = none := by simp [e]
      rw [this, Option.or_none]
theorem ahdOf_mem {P : List (Nat × List Nat)} (hn : (P.map (·.1)).Nodup) {s : Nat × List Nat} (hs : s ∈ P) : ahdOf P s.1 = ahd s.2 := by
  unfold ahdOf
  induction P with
  | nil => cases hs
  | cons x P ih =>
    rw [List.map_cons, List.nodup_cons] at hn
    rw [List.find?_cons]
    by_cases e : x.1 = s.1
    · rcases List.mem_cons.1 hs with rfl | hs
      · simp
      · exact absurd (List.mem_map.2 ⟨s, hs, rfl⟩) (e ▸ hn.1)
    · have hb : (x.1 == s.1) = false := by simpa using e
      rw [hb]
      rcases List.mem_cons.1 hs with rfl | hs
      · exact absurd rfl e
      · exact ih hn.2 hs

theorem told_nodup {g : List (List Int)} {fs : List Int} {P : List (Nat × List Nat)} (h : P <+: told g fs) : (P.map (·.1)).Nodup :=
  ((told_inv g fs).nodup).sublist (h.sublist.map _)

theorem make_ints (n : Nat) (hn : n ≤ 1000) (W : World) : (Instr.makeSlice 23 (.int .i64 (n : Int)) (.int .i64 (n : Int))).run Try.prog W = .ok (.slice (some ⟨W.heap.size, 0, none⟩) n n) (W.alloc (.cells (Array.replicate n (.int .i64 0)) 3)) := by
  obtain ⟨i, hi, hz0, hz1, hz2⟩ := info_parts infoI
  have := run_make (P := Try.prog) W 23 3 i (.int .i64 0) Try.underlying23 hi hz0 .i64 .i64 (n : Int) (n : Int) (by omega) (by omega) (by rw [hz2]; omega) (by omega)
  rw [this, hz1]
  simp only [Int.toNat_natCast, Nat.mul_one]
  have e : madeCells (Value.int .i64 0).cells n = Array.replicate n (.int .i64 0) := by
    apply Array.ext
    · simp [madeCells, Value.cells]
    · intro i h1 h2
      simp [madeCells, Value.cells, Nat.mod_one]
  rw [e]

theorem sum_le (l : List Nat) (f : Nat → Nat) (b : Nat) (h : ∀ x ∈ l, f x ≤ b) : (l.map f).sum ≤ l.length * b := by
  induction l with
  | nil => simp
  | cons x l ih =>
    have h1 := h x (by simp)
    have h2 := ih fun y hy => h y (by simp [hy])
    simp only [List.map_cons, List.sum_cons, List.length_cons, Nat.add_mul, Nat.one_mul]
    omega

theorem fuel_clean (g : List (List Int)) (hs : g.length ≤ 500) : fuel (clean g) 1 ≤ 1000000 := by
  unfold fuel out
  have h : ((List.range (clean g).length).map fun p => if ([] : List Nat).contains p then 0 else ((clean g).getD p []).length).sum ≤ (List.range (clean g).length).length * g.length := by
    refine sum_le _ _ _ fun p hp => ?_
    rw [List.mem_range, clean_length] at hp
    have : ((clean g).getD p []).length ≤ g.length := by
      unfold clean
      rw [gr_row hp, List.length_map]
      exact Nat.le_trans (List.length_filter_le _ _) (by simp)
    simpa using this
  rw [List.length_range, clean_length] at h
  have h2 : g.length * g.length ≤ 500 * 500 := Nat.mul_le_mul hs hs
  simp only [clean_length] at h ⊢
  omega

/-- What is told of b is the way. -/
theorem way_told {g : List (List Int)} {a : Int} {P : List (Nat × List Nat)} {b : Nat} {t : List Nat} (h : P ++ [(b, t)] <+: told (clean g) [a]) : way g a b = (b :: t).reverse := by
  obtain ⟨r, hr⟩ := h
  have hn : ((P ++ [(b, t)]).map (·.1)).Nodup := told_nodup ⟨r, hr⟩
  have hb : P.find? (fun s => (s.1 : Int) == (b : Int)) = none := by
    refine List.find?_eq_none.2 fun s hs he => ?_
    rw [List.map_append, List.nodup_append] at hn
    have e : s.1 = b := by rw [beq_iff_eq] at he; omega
    exact hn.2.2 s.1 (List.mem_map.2 ⟨s, hs, rfl⟩) b (by simp) e
  unfold way
  rw [← hr, List.find?_append, List.find?_append, hb]
  simp [pth]
theorem way_untold {g : List (List Int)} {a b : Int} (h : ∀ s ∈ told (clean g) [a], (s.1 : Int) ≠ b) : way g a b = [] := by
  unfold way
  have : (told (clean g) [a]).find? (fun s => (s.1 : Int) == b) = none := List.find?_eq_none.2 fun s hs he => h s hs (by simpa using he)
  rw [this]
end Go.Proofs.Ytfgnlemoodfgoaa.By
