/-
  GRAPHS, in plain mathematics: what a walk by nearness tells; ways back; what is reached.
-/
import Derived.Below
namespace Go.Proofs.Ytfgnlemoodfgoaa.Gm

/-- An edge leads from a to b. -/
def E (g : List (List Int)) (a b : Nat) : Bool := decide (a < g.length) && (decide (b < g.length) && (g.getD a []).contains (b : Int))

theorem E_iff {g : List (List Int)} {a b : Nat} : E g a b = true ↔ a < g.length ∧ b < g.length ∧ (b : Int) ∈ g.getD a [] := by simp [E]

/-- A number is a place. -/
def isP (g : List (List Int)) (p : Int) : Bool := decide (0 ≤ p) && decide (p < g.length)
theorem isP_iff {g : List (List Int)} {p : Int} : isP g p = true ↔ 0 ≤ p ∧ p < g.length := by simp [isP]

def kids (g : List (List Int)) (p : Nat) (t : List Nat) : List (Int × List Nat) := (g.getD p []).map fun c => (c, p :: t)

/-- What a walk through the graph tells, nearest first: places, each with the way back from the one ahead. L: what has been told. -/
def bfs (g : List (List Int)) : Nat → List (Nat × List Nat) → List (Int × List Nat) → List (Nat × List Nat)
  | 0, _, _ => []
  | _ + 1, _, [] => []
  | f + 1, L, (p, t) :: q => if isP g p && !(L.map (·.1)).contains p.toNat then (p.toNat, t) :: bfs g f (L ++ [(p.toNat, t)]) (q ++ kids g p.toNat t) else bfs g f L q

/-- How much is still to come. -/
def out (g : List (List Int)) (T : List Nat) : Nat := ((List.range g.length).map fun p => if T.contains p then 0 else (g.getD p []).length).sum
def mu (g : List (List Int)) (L : List (Nat × List Nat)) (q : List (Int × List Nat)) : Nat := q.length + out g (L.map (·.1))

theorem sum_split (f h : Nat → Nat) (a c : Nat) (l : List Nat) (hn : l.Nodup) (ha : a ∈ l) (hf : f a = 0) (hh : h a = c) (he : ∀ x, x ≠ a → f x = h x) : (l.map f).sum + c = (l.map h).sum := by
  induction l with
  | nil => cases ha
  | cons x l ih =>
    rw [List.nodup_cons] at hn
    simp only [List.map_cons, List.sum_cons]
    by_cases hx : x = a
    · subst hx
      have : (l.map f) = (l.map h) := List.map_congr_left fun y hy => he y (fun e => hn.1 (e ▸ hy))
      rw [this, hf, hh]; omega
    · have := ih hn.2 (by rcases List.mem_cons.1 ha with h | h; exact absurd h.symm hx; exact h)
      rw [he x hx]; omega

theorem out_add {g : List (List Int)} {T : List Nat} {p : Nat} (hp : p < g.length) (hT : T.contains p = false) : out g (T ++ [p]) + (g.getD p []).length = out g T := by
  unfold out
  refine sum_split _ _ p _ _ List.nodup_range (List.mem_range.2 hp) (by simp) (by simp only [hT]; simp) fun x hx => ?_
  have : (T ++ [p]).contains x = T.contains x := by
    rw [Bool.eq_iff_iff]; simp [hx]
  rw [this]

theorem bfs_yes {g : List (List Int)} {f : Nat} {L : List (Nat × List Nat)} {p : Int} {t : List Nat} {q : List (Int × List Nat)} (h1 : isP g p = true) (h2 : (L.map (·.1)).contains p.toNat = false) :
    bfs g (f + 1) L ((p, t) :: q) = (p.toNat, t) :: bfs g f (L ++ [(p.toNat, t)]) (q ++ kids g p.toNat t) := by
  rw [bfs, if_pos (by rw [h1, h2]; rfl)]
theorem bfs_no {g : List (List Int)} {f : Nat} {L : List (Nat × List Nat)} {p : Int} {t : List Nat} {q : List (Int × List Nat)} (h : isP g p = false ∨ (L.map (·.1)).contains p.toNat = true) :
    bfs g (f + 1) L ((p, t) :: q) = bfs g f L q := by
  rw [bfs, if_neg (by rcases h with h | h <;> simp only [h, Bool.not_true, Bool.and_false, Bool.false_and] <;> decide)]

theorem mu_yes {g : List (List Int)} {L : List (Nat × List Nat)} {p : Int} {t : List Nat} {q : List (Int × List Nat)} (h1 : isP g p = true) (h2 : (L.map (·.1)).contains p.toNat = false) :
    mu g (L ++ [(p.toNat, t)]) (q ++ kids g p.toNat t) + 1 = mu g L ((p, t) :: q) := by
  have hp : p.toNat < g.length := by have := isP_iff.1 h1; omega
  have := out_add hp h2
  unfold mu
  simp only [kids, List.length_append, List.length_map, List.map_append, List.map_cons, List.map_nil, List.length_cons] at this ⊢
  omega
theorem mu_no {g : List (List Int)} {L : List (Nat × List Nat)} {s : Int × List Nat} {q : List (Int × List Nat)} : mu g L q + 1 = mu g L (s :: q) := by
  unfold mu; simp; omega

/-- What holds of all steps holds at the end. -/
theorem bfs_ind (g : List (List Int)) (Inv : List (Nat × List Nat) → List (Int × List Nat) → Prop)
    (hyes : ∀ L p t q, Inv L ((p, t) :: q) → isP g p = true → (L.map (·.1)).contains p.toNat = false → Inv (L ++ [(p.toNat, t)]) (q ++ kids g p.toNat t))
    (hno : ∀ L p t q, Inv L ((p, t) :: q) → (isP g p = false ∨ (L.map (·.1)).contains p.toNat = true) → Inv L q) :
    ∀ f L q, Inv L q → mu g L q ≤ f → Inv (L ++ bfs g f L q) [] := by
  intro f
  induction f with
  | zero =>
    intro L q h hm
    have : q = [] := by
      unfold mu at hm
      exact List.eq_nil_of_length_eq_zero (by omega)
    subst this
    simpa [bfs] using h
  | succ f ih =>
    intro L q h hm
    match q with
    | [] => simpa [bfs] using h
    | (p, t) :: q =>
      by_cases h1 : isP g p = true ∧ (L.map (·.1)).contains p.toNat = false
      · rw [bfs_yes h1.1 h1.2]
        have h3 := mu_yes (q := q) (t := t) h1.1 h1.2
        have := ih _ _ (hyes L p t q h h1.1 h1.2) (by omega)
        simpa using this
      · have h4 : isP g p = false ∨ (L.map (·.1)).contains p.toNat = true := by
          cases e : isP g p
          · exact .inl rfl
          · right
            cases e2 : (L.map (·.1)).contains p.toNat
            · exact absurd ⟨e, e2⟩ h1
            · rfl
        rw [bfs_no h4]
        have h3 := mu_no (g := g) (L := L) (s := (p, t)) (q := q)
        exact ih _ _ (hno L p t q h h4) (by omega)

/-- A way back to where a walk began: places, the last one first. -/
inductive Walk (g : List (List Int)) (S : Nat → Prop) : List Nat → Prop
  | one (a : Nat) (ha : a < g.length) (hS : S a) : Walk g S [a]
  | on (u v : Nat) (t : List Nat) (h : Walk g S (u :: t)) (he : E g u v = true) : Walk g S (v :: u :: t)

theorem Walk.head {g : List (List Int)} {S : Nat → Prop} {v : Nat} {t : List Nat} (h : Walk g S (v :: t)) : v < g.length := by
  cases h with
  | one _ ha _ => exact ha
  | on u _ t h he => exact (E_iff.1 he).2.1

theorem Walk.all {g : List (List Int)} {S : Nat → Prop} {l : List Nat} (h : Walk g S l) : ∀ x ∈ l, x < g.length := by
  induction h with
  | one a ha _ => simpa using ha
  | on u v t h he ih =>
    intro x hx
    rcases List.mem_cons.1 hx with rfl | hx
    · exact (E_iff.1 he).2.1
    · exact ih x hx

/-- The steps of a walk: what is so of what was told, and of what waits. -/
structure Inv1 (g : List (List Int)) (fs : List Int) (L : List (Nat × List Nat)) (q : List (Int × List Nat)) : Prop where
  walk : ∀ s ∈ L, Walk g (fun a => (a : Int) ∈ fs) (s.1 :: s.2) ∧ (s.1 :: s.2).Nodup ∧ (∀ x ∈ s.2, x ∈ L.map (·.1)) ∧ (∀ u t, s.2 = u :: t → (u, t) ∈ L)
  wait : ∀ s ∈ q, (s.2 = [] ∧ s.1 ∈ fs) ∨ ∃ u t, s.2 = u :: t ∧ (u, t) ∈ L ∧ s.1 ∈ g.getD u []
  nodup : (L.map (·.1)).Nodup
  first : ∀ c ∈ fs, isP g c = true → c.toNat ∈ L.map (·.1) ∨ (c, []) ∈ q
  next : ∀ s ∈ L, ∀ c ∈ g.getD s.1 [], isP g c = true → c.toNat ∈ L.map (·.1) ∨ (c, s.1 :: s.2) ∈ q

theorem inv1_yes (g : List (List Int)) (fs : List Int) (L : List (Nat × List Nat)) (p : Int) (t : List Nat) (q : List (Int × List Nat)) (h : Inv1 g fs L ((p, t) :: q))
    (h1 : isP g p = true) (h2 : (L.map (·.1)).contains p.toNat = false) : Inv1 g fs (L ++ [(p.toNat, t)]) (q ++ kids g p.toNat t) := by
  have hp := isP_iff.1 h1
  have hpn : ((p.toNat : Nat) : Int) = p := by omega
  have hnot : p.toNat ∉ L.map (·.1) := by simpa using h2
  have hlt : p.toNat < g.length := by omega
  have hmem : ∀ x, x ∈ (L ++ [(p.toNat, t)]).map (·.1) ↔ x ∈ L.map (·.1) ∨ x = p.toNat := by simp
  have hw : Walk g (fun a => (a : Int) ∈ fs) (p.toNat :: t) ∧ (p.toNat :: t).Nodup ∧ (∀ x ∈ t, x ∈ L.map (·.1)) ∧ (∀ u t', t = u :: t' → (u, t') ∈ L) := by
    rcases h.wait _ (List.mem_cons_self) with ⟨ht, hf⟩ | ⟨u, t', ht, hu, hc⟩
    · simp only at ht hf; subst ht
      exact ⟨.one _ hlt (by rw [hpn]; exact hf), by simp, by simp, by simp⟩
    · simp only at ht hc; subst ht
      have hu' := h.walk _ hu
      have hul : u < g.length := hu'.1.head
      refine ⟨.on u _ t' hu'.1 (E_iff.2 ⟨hul, hlt, by rw [hpn]; exact hc⟩), ?_, ?_, ?_⟩
      · rw [List.nodup_cons]
        refine ⟨fun hx => hnot ?_, hu'.2.1⟩
        rcases List.mem_cons.1 hx with hx | hx
        · rw [hx]; exact List.mem_map.2 ⟨_, hu, rfl⟩
        · exact hu'.2.2.1 _ hx
      · intro x hx
        rcases List.mem_cons.1 hx with hx | hx
        · rw [hx]; exact List.mem_map.2 ⟨_, hu, rfl⟩
        · exact hu'.2.2.1 _ hx
      · intro u2 t2 he
        injection he with e1 e2; subst e1 e2; exact hu
  constructor
  · intro s hs
    rcases List.mem_append.1 hs with hs | hs
    · obtain ⟨a, b, c, d⟩ := h.walk s hs
      exact ⟨a, b, fun x hx => (hmem x).2 (.inl (c x hx)), fun u t' e => List.mem_append.2 (.inl (d u t' e))⟩
    · rw [List.mem_singleton] at hs; subst hs
      exact ⟨hw.1, hw.2.1, fun x hx => (hmem x).2 (.inl (hw.2.2.1 x hx)), fun u t' e => List.mem_append.2 (.inl (hw.2.2.2 u t' e))⟩
  · intro s hs
    rcases List.mem_append.1 hs with hs | hs
    · rcases h.wait s (List.mem_cons_of_mem _ hs) with h3 | ⟨u, t', h3, h4, h5⟩
      · exact .inl h3
      · exact .inr ⟨u, t', h3, List.mem_append.2 (.inl h4), h5⟩
    · obtain ⟨c, hc, rfl⟩ := List.mem_map.1 hs
      exact .inr ⟨p.toNat, t, rfl, by simp, hc⟩
  · rw [List.map_append, List.nodup_append]
    refine ⟨h.nodup, by simp, fun a ha b hb => ?_⟩
    simp at hb; subst hb
    exact fun e => hnot (e ▸ ha)
  · intro c hc hcp
    rcases h.first c hc hcp with h3 | h3
    · exact .inl ((hmem _).2 (.inl h3))
    · rcases List.mem_cons.1 h3 with h3 | h3
      · injection h3 with e1 e2; subst e1; exact .inl ((hmem _).2 (.inr rfl))
      · exact .inr (List.mem_append.2 (.inl h3))
  · intro s hs c hc hcp
    rcases List.mem_append.1 hs with hs | hs
    · rcases h.next s hs c hc hcp with h3 | h3
      · exact .inl ((hmem _).2 (.inl h3))
      · rcases List.mem_cons.1 h3 with h3 | h3
        · injection h3 with e1 e2; subst e1; exact .inl ((hmem _).2 (.inr rfl))
        · exact .inr (List.mem_append.2 (.inl h3))
    · rw [List.mem_singleton] at hs; subst hs
      exact .inr (List.mem_append.2 (.inr (List.mem_map.2 ⟨c, hc, rfl⟩)))

theorem inv1_no (g : List (List Int)) (fs : List Int) (L : List (Nat × List Nat)) (p : Int) (t : List Nat) (q : List (Int × List Nat)) (h : Inv1 g fs L ((p, t) :: q))
    (h1 : isP g p = false ∨ (L.map (·.1)).contains p.toNat = true) : Inv1 g fs L q := by
  have hin : isP g p = true → p.toNat ∈ L.map (·.1) := fun e => by
    rcases h1 with h1 | h1
    · rw [e] at h1; cases h1
    · simpa using h1
  refine ⟨h.walk, fun s hs => h.wait s (List.mem_cons_of_mem _ hs), h.nodup, fun c hc hcp => ?_, fun s hs c hc hcp => ?_⟩
  · rcases h.first c hc hcp with h3 | h3
    · exact .inl h3
    · rcases List.mem_cons.1 h3 with h3 | h3
      · injection h3 with e1 e2; subst e1; exact .inl (hin hcp)
      · exact .inr h3
  · rcases h.next s hs c hc hcp with h3 | h3
    · exact .inl h3
    · rcases List.mem_cons.1 h3 with h3 | h3
      · injection h3 with e1 e2; subst e1; exact .inl (hin hcp)
      · exact .inr h3

def fuel (g : List (List Int)) (k : Nat) : Nat := k + out g []
/-- What is told from these places on. -/
def told (g : List (List Int)) (fs : List Int) : List (Nat × List Nat) := bfs g (fuel g fs.length) [] (fs.map fun c => (c, []))

theorem told_inv (g : List (List Int)) (fs : List Int) : Inv1 g fs (told g fs) [] := by
  have := bfs_ind g (Inv1 g fs) (inv1_yes g fs) (inv1_no g fs) (fuel g fs.length) [] (fs.map fun c => (c, [])) ?_ (by simp [mu, fuel])
  · exact this
  · refine ⟨by simp, fun s hs => ?_, by simp, fun c hc _ => .inr (List.mem_map.2 ⟨c, hc, rfl⟩), by simp⟩
    obtain ⟨c, hc, rfl⟩ := List.mem_map.1 hs
    exact .inl ⟨rfl, hc⟩

/-- A place is reached. -/
def reach (g : List (List Int)) (fs : List Int) (v : Nat) : Bool := ((told g fs).map (·.1)).contains v

theorem reach_iff (g : List (List Int)) (fs : List Int) (v : Nat) : reach g fs v = true ↔ ∃ t, Walk g (fun a => (a : Int) ∈ fs) (v :: t) := by
  have hi := told_inv g fs
  constructor
  · intro h
    have h : v ∈ (told g fs).map (·.1) := by simpa [reach] using h
    obtain ⟨s, hs, rfl⟩ := List.mem_map.1 h
    exact ⟨s.2, (hi.walk s hs).1⟩
  · rintro ⟨t, hw⟩
    suffices h : v ∈ (told g fs).map (·.1) by simpa [reach] using h
    have key : ∀ l, Walk g (fun a => (a : Int) ∈ fs) l → ∀ v t, l = v :: t → v ∈ (told g fs).map (·.1) := by
      intro l hl
      induction hl with
      | one a ha hS =>
        intro v t e
        injection e with e1 e2; subst e1
        rcases hi.first (a : Int) hS (isP_iff.2 ⟨by omega, by omega⟩) with h3 | h3
        · exact h3
        · cases h3
      | on u v t h he ih =>
        intro v2 t2 e
        injection e with e1 e2; subst e1
        have hu := ih u t rfl
        obtain ⟨s, hs, hs1⟩ := List.mem_map.1 hu
        have he' := E_iff.1 he
        rcases hi.next s hs (v : Int) (by rw [hs1]; exact he'.2.2) (isP_iff.2 ⟨by omega, by omega⟩) with h3 | h3
        · exact h3
        · cases h3
    exact key _ hw v t rfl

theorem nodup_len : ∀ (n : Nat) (l : List Nat), l.Nodup → (∀ x ∈ l, x < n) → l.length ≤ n := by
  intro n
  induction n with
  | zero => intro l _ h; cases l with
    | nil => simp
    | cons x l => exact absurd (h x (by simp)) (by omega)
  | succ n ih =>
    intro l hl h
    by_cases hn : n ∈ l
    · have h1 := List.length_erase_of_mem hn
      have h2 := ih (l.erase n) (hl.erase n) (fun x hx => by
        have := (hl.mem_erase_iff).1 hx
        have := h x this.2
        omega)
      omega
    · have := ih l hl (fun x hx => by
        have h1 := h x hx
        have : x ≠ n := fun e => hn (e ▸ hx)
        omega)
      omega

theorem told_short {g : List (List Int)} {fs : List Int} {v : Nat} {t : List Nat} (h : (v, t) ∈ told g fs) : (v :: t).length ≤ g.length := by
  have := (told_inv g fs).walk _ h
  exact nodup_len _ _ this.2.1 this.1.all

end Go.Proofs.Ytfgnlemoodfgoaa.Gm
