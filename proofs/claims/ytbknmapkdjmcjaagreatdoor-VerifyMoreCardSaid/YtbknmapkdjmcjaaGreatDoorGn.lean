/-
  GRAPHS, in plain mathematics: what a walk by nearness tells; ways back; what is reached. GRAPHS, in plain mathematics: the least way; clean and turned graphs; how far it is, as the document reckons; its way.
-/
import Derived.Below
namespace Go.Proofs.YtbknmapkdjmcjaaGreatDoor.Gm

/-- An edge leads from a to b. -/
def E (g : List (List Int)) (a b : Nat) : Bool := decide (a < g.length) && (decide (b < g.length) && (g.getD a []).contains (b : Int))

theorem E_iff {g : List (List Int)} {a b : Nat} : E g a b = true ↔ a < g.length ∧ b < g.length ∧ (b : Int) ∈ g.getD a [] := by simp [E]

/-- A number is a place. -/
def isP (g : List (List Int)) (p : Int) : Bool := decide (0 ≤ p) && decide (p < g.length)
theorem isP_iff {g : List (List Int)} {p : Int} : isP g p = true ↔ 0 ≤ p ∧ p < g.length := by simp [isP]

def kids (g : List (List Int)) (p : Nat) (t : List Nat) : List (Int × List Nat) := (g.getD p []).map fun c => (c, p :: t)

/-- What a walk through the graph tells, nearest first: places, each with the way back from the one ahead. L: what has been told. -/
def bfs (g : List (List Int)) : Nat → List (Nat × List Nat) → List (Int × List Nat) → List (Nat × List Nat)
  | 0, _, _ => []
  | _ + 1, _, [] => []
  | f + 1, L, (p, t) :: q => if isP g p && !(L.map (·.1)).contains p.toNat then (p.toNat, t) :: bfs g f (L ++ [(p.toNat, t)]) (q ++ kids g p.toNat t) else bfs g f L q

/-- How much is still to come. -/
def out (g : List (List Int)) (T : List Nat) : Nat := ((List.range g.length).map fun p => if T.contains p then 0 else (g.getD p []).length).sum
def mu (g : List (List Int)) (L : List (Nat × List Nat)) (q : List (Int × List Nat)) : Nat := q.length + out g (L.map (·.1))

theorem sum_split (f h : Nat → Nat) (a c : Nat) (l : List Nat) (hn : l.Nodup) (ha : a ∈ l) (hf : f a = 0) (hh : h a = c) (he : ∀ x, x ≠ a → f x = h x) : (l.map f).sum + c = (l.map h).sum := by
  induction l with
  | nil => cases ha
  | cons x l ih =>
    rw [List.nodup_cons] at hn
    simp only [List.map_cons, List.sum_cons]
    by_cases hx : x = a
    · subst hx
      have : (l.map f) = (l.map h) := List.map_congr_left fun y hy => he y (fun e => hn.1 (e ▸ hy))
      rw [this, hf, hh]; omega
    · have := ih hn.2 (by rcases List.mem_cons.1 ha with h | h; exact absurd h.symm hx; exact h)
      rw [he x hx]; omega

theorem out_add {g : List (List Int)} {T : List Nat} {p : Nat} (hp : p < g.length) (hT : T.contains p = false) : out g (T ++ [p]) + (g.getD p []).length = out g T := by
  unfold out
  refine sum_split _ _ p _ _ List.nodup_range (List.mem_range.2 hp) (by simp) (by simp only [hT]; simp) fun x hx => ?_
  have : (T ++ [p]).contains x = T.contains x := by
    rw [Bool.eq_iff_iff]; simp [hx]
  rw [this]

theorem bfs_yes {g : List (List Int)} {f : Nat} {L : List (Nat × List Nat)} {p : Int} {t : List Nat} {q : List (Int × List Nat)} (h1 : isP g p = true) (h2 : (L.map (·.1)).contains p.toNat = false) :
    bfs g (f + 1) L ((p, t) :: q) = (p.toNat, t) :: bfs g f (L ++ [(p.toNat, t)]) (q ++ kids g p.toNat t) := by
  rw [bfs, if_pos (by rw [h1, h2]; rfl)]
theorem bfs_no {g : List (List Int)} {f : Nat} {L : List (Nat × List Nat)} {p : Int} {t : List Nat} {q : List (Int × List Nat)} (h : isP g p = false ∨ (L.map (·.1)).contains p.toNat = true) :
    bfs g (f + 1) L ((p, t) :: q) = bfs g f L q := by
  rw [bfs, if_neg (by rcases h with h | h <;> simp only [h, Bool.not_true, Bool.and_false, Bool.false_and] <;> decide)]

theorem mu_yes {g : List (List Int)} {L : List (Nat × List Nat)} {p : Int} {t : List Nat} {q : List (Int × List Nat)} (h1 : isP g p = true) (h2 : (L.map (·.1)).contains p.toNat = false) :
    mu g (L ++ [(p.toNat, t)]) (q ++ kids g p.toNat t) + 1 = mu g L ((p, t) :: q) := by
  have hp : p.toNat < g.length := by have := isP_iff.1 h1; omega
  have := out_add hp h2
  unfold mu
  simp only [kids, List.length_append, List.length_map, List.map_append, List.map_cons, List.map_nil, List.length_cons] at this ⊢
  omega
theorem mu_no {g : List (List Int)} {L : List (Nat × List Nat)} {s : Int × List Nat} {q : List (Int × List Nat)} : mu g L q + 1 = mu g L (s :: q) := by
  unfold mu; simp; omega

/-- What holds of all steps holds at the end. -/
theorem bfs_ind (g : List (List Int)) (Inv : List (Nat × List Nat) → List (Int × List Nat) → Prop)
    (hyes : ∀ L p t q, Inv L ((p, t) :: q) → isP g p = true → (L.map (·.1)).contains p.toNat = false → Inv (L ++ [(p.toNat, t)]) (q ++ kids g p.toNat t))
    (hno : ∀ L p t q, Inv L ((p, t) :: q) → (isP g p = false ∨ (L.map (·.1)).contains p.toNat = true) → Inv L q) :
    ∀ f L q, Inv L q → mu g L q ≤ f → Inv (L ++ bfs g f L q) [] := by
  intro f
  induction f with
  | zero =>
    intro L q h hm
    have : q = [] := by
      unfold mu at hm
      exact List.eq_nil_of_length_eq_zero (by omega)
    subst this
    simpa [bfs] using h
  | succ f ih =>
    intro L q h hm
    match q with
    | [] => simpa [bfs] using h
    | (p, t) :: q =>
      by_cases h1 : isP g p = true ∧ (L.map (·.1)).contains p.toNat = false
      · rw [bfs_yes h1.1 h1.2]
        have h3 := mu_yes (q := q) (t := t) h1.1 h1.2
        have := ih _ _ (hyes L p t q h h1.1 h1.2) (by omega)
        simpa using this
      · have h4 : isP g p = false ∨ (L.map (·.1)).contains p.toNat = true := by
          cases e : isP g p
          · exact .inl rfl
          · right
            cases e2 : (L.map (·.1)).contains p.toNat
            · exact absurd ⟨e, e2⟩ h1
            · rfl
        rw [bfs_no h4]
        have h3 := mu_no (g := g) (L := L) (s := (p, t)) (q := q)
        exact ih _ _ (hno L p t q h h4) (by omega)

/-- A way back to where a walk began: places, the last one first. -/
inductive Walk (g : List (List Int)) (S : Nat → Prop) : List Nat → Prop
  | one (a : Nat) (ha : a < g.length) (hS : S a) : Walk g S [a]
  | on (u v : Nat) (t : List Nat) (h : Walk g S (u :: t)) (he : E g u v = true) : Walk g S (v :: u :: t)

theorem Walk.head {g : List (List Int)} {S : Nat → Prop} {v : Nat} {t : List Nat} (h : Walk g S (v :: t)) : v < g.length := by
  cases h with
  | one _ ha _ => exact ha
  | on u _ t h he => exact (E_iff.1 he).2.1

theorem Walk.all {g : List (List Int)} {S : Nat → Prop} {l : List Nat} (h : Walk g S l) : ∀ x ∈ l, x < g.length := by
  induction h with
  | one a ha _ => simpa using ha
  | on u v t h he ih =>
    intro x hx
    rcases List.mem_cons.1 hx with rfl | hx
    · exact (E_iff.1 he).2.1
    · exact ih x hx

/-- The steps of a walk: what is so of what was told, and of what waits. -/
structure Inv1 (g : List (List Int)) (fs : List Int) (L : List (Nat × List Nat)) (q : List (Int × List Nat)) : Prop where
  walk : ∀ s ∈ L, Walk g (fun a => (a : Int) ∈ fs) (s.1 :: s.2) ∧ (s.1 :: s.2).Nodup ∧ (∀ x ∈ s.2, x ∈ L.map (·.1)) ∧ (∀ u t, s.2 = u :: t → (u, t) ∈ L)
  wait : ∀ s ∈ q, (s.2 = [] ∧ s.1 ∈ fs) ∨ ∃ u t, s.2 = u :: t ∧ (u, t) ∈ L ∧ s.1 ∈ g.getD u []
  nodup : (L.map (·.1)).Nodup
  first : ∀ c ∈ fs, isP g c = true → c.toNat ∈ L.map (·.1) ∨ (c, []) ∈ q
  next : ∀ s ∈ L, ∀ c ∈ g.getD s.1 [], isP g c = true → c.toNat ∈ L.map (·.1) ∨ (c, s.1 :: s.2) ∈ q

theorem inv1_yes (g : List (List Int)) (fs : List Int) (L : List (Nat × List Nat)) (p : Int) (t : List Nat) (q : List (Int × List Nat)) (h : Inv1 g fs L ((p, t) :: q))
    (h1 : isP g p = true) (h2 : (L.map (·.1)).contains p.toNat = false) : Inv1 g fs (L ++ [(p.toNat, t)]) (q ++ kids g p.toNat t) := by
  have hp := isP_iff.1 h1
  have hpn : ((p.toNat : Nat) : Int) = p := by omega
  have hnot : p.toNat ∉ L.map (·.1) := by simpa using h2
  have hlt : p.toNat < g.length := by omega
  have hmem : ∀ x, x ∈ (L ++ [(p.toNat, t)]).map (·.1) ↔ x ∈ L.map (·.1) ∨ x = p.toNat := by simp
  have hw : Walk g (fun a => (a : Int) ∈ fs) (p.toNat :: t) ∧ (p.toNat :: t).Nodup ∧ (∀ x ∈ t, x ∈ L.map (·.1)) ∧ (∀ u t', t = u :: t' → (u, t') ∈ L) := by
    rcases h.wait _ (List.mem_cons_self) with ⟨ht, hf⟩ | ⟨u, t', ht, hu, hc⟩
    · simp only at ht hf; subst ht
      exact ⟨.one _ hlt (by rw [hpn]; exact hf), by simp, by simp, by simp⟩
    · simp only at ht hc; subst ht
      have hu' := h.walk _ hu
      have hul : u < g.length := hu'.1.head
      refine ⟨.on u _ t' hu'.1 (E_iff.2 ⟨hul, hlt, by rw [hpn]; exact hc⟩), ?_, ?_, ?_⟩
      · rw [List.nodup_cons]
        refine ⟨fun hx => hnot ?_, hu'.2.1⟩
        rcases List.mem_cons.1 hx with hx | hx
        · rw [hx]; exact List.mem_map.2 ⟨_, hu, rfl⟩
        · exact hu'.2.2.1 _ hx
      · intro x hx
        rcases List.mem_cons.1 hx with hx | hx
        · rw [hx]; exact List.mem_map.2 ⟨_, hu, rfl⟩
        · exact hu'.2.2.1 _ hx
      · intro u2 t2 he
        injection he with e1 e2; subst e1 e2; exact hu
  constructor
  · intro s hs
    rcases List.mem_append.1 hs with hs | hs
    · obtain ⟨a, b, c, d⟩ := h.walk s hs
      exact ⟨a, b, fun x hx => (hmem x).2 (.inl (c x hx)), fun u t' e => List.mem_append.2 (.inl (d u t' e))⟩
    · rw [List.mem_singleton] at hs; subst hs
      exact ⟨hw.1, hw.2.1, fun x hx => (hmem x).2 (.inl (hw.2.2.1 x hx)), fun u t' e => List.mem_append.2 (.inl (hw.2.2.2 u t' e))⟩
  · intro s hs
    rcases List.mem_append.1 hs with hs | hs
    · rcases h.wait s (List.mem_cons_of_mem _ hs) with h3 | ⟨u, t', h3, h4, h5⟩
      · exact .inl h3
      · exact .inr ⟨u, t', h3, List.mem_append.2 (.inl h4), h5⟩
    · obtain ⟨c, hc, rfl⟩ := List.mem_map.1 hs
      exact .inr ⟨p.toNat, t, rfl, by simp, hc⟩
  · rw [List.map_append, List.nodup_append]
    refine ⟨h.nodup, by simp, fun a ha b hb => ?_⟩
    simp at hb; subst hb
    exact fun e => hnot (e ▸ ha)
  · intro c hc hcp
    rcases h.first c hc hcp with h3 | h3
    · exact .inl ((hmem _).2 (.inl h3))
    · rcases List.mem_cons.1 h3 with h3 | h3
      · injection h3 with e1 e2; subst e1; exact .inl ((hmem _).2 (.inr rfl))
      · exact .inr (List.mem_append.2 (.inl h3))
  · intro s hs c hc hcp
    rcases List.mem_append.1 hs with hs | hs
    · rcases h.next s hs c hc hcp with h3 | h3
      · exact .inl ((hmem _).2 (.inl h3))
      · rcases List.mem_cons.1 h3 with h3 | h3
        · injection h3 with e1 e2; subst e1; exact .inl ((hmem _).2 (.inr rfl))
        · exact .inr (List.mem_append.2 (.inl h3))
    · rw [List.mem_singleton] at hs; subst hs
      exact .inr (List.mem_append.2 (.inr (List.mem_map.2 ⟨c, hc, rfl⟩)))

theorem inv1_no (g : List (List Int)) (fs : List Int) (L : List (Nat × List Nat)) (p : Int) (t : List Nat) (q : List (Int × List Nat)) (h : Inv1 g fs L ((p, t) :: q))
    (h1 : isP g p = false ∨ (L.map (·.1)).contains p.toNat = true) : Inv1 g fs L q := by
  have hin : isP g p = true → p.toNat ∈ L.map (·.1) := fun e => by
    rcases h1 with h1 | h1
    · rw [e] at h1; cases h1
    · simpa using h1
  refine ⟨h.walk, fun s hs => h.wait s (List.mem_cons_of_mem _ hs), h.nodup, fun c hc hcp => ?_, fun s hs c hc hcp => ?_⟩
  · rcases h.first c hc hcp with h3 | h3
    · exact .inl h3
    · rcases List.mem_cons.1 h3 with h3 | h3
      · injection h3 with e1 e2; subst e1; exact .inl (hin hcp)
      · exact .inr h3
  · rcases h.next s hs c hc hcp with h3 | h3
    · exact .inl h3
    · rcases List.mem_cons.1 h3 with h3 | h3
      · injection h3 with e1 e2; subst e1; exact .inl (hin hcp)
      · exact .inr h3

def fuel (g : List (List Int)) (k : Nat) : Nat := k + out g []
/-- What is told from these places on. -/
def told (g : List (List Int)) (fs : List Int) : List (Nat × List Nat) := bfs g (fuel g fs.length) [] (fs.map fun c => (c, []))

theorem told_inv (g : List (List Int)) (fs : List Int) : Inv1 g fs (told g fs) [] := by
  have := bfs_ind g (Inv1 g fs) (inv1_yes g fs) (inv1_no g fs) (fuel g fs.length) [] (fs.map fun c => (c, [])) ?_ (by simp [mu, fuel])
  · exact this
  · refine ⟨by simp, fun s hs => ?_, by simp, fun c hc _ => .inr (List.mem_map.2 ⟨c, hc, rfl⟩), by simp⟩
    obtain ⟨c, hc, rfl⟩ := List.mem_map.1 hs
    exact .inl ⟨rfl, hc⟩

/-- A place is reached. -/
def reach (g : List (List Int)) (fs : List Int) (v : Nat) : Bool := ((told g fs).map (·.1)).contains v

theorem reach_iff (g : List (List Int)) (fs : List Int) (v : Nat) : reach g fs v = true ↔ ∃ t, Walk g (fun a => (a : Int) ∈ fs) (v :: t) := by
  have hi := told_inv g fs
  constructor
  · intro h
    have h : v ∈ (told g fs).map (·.1) := by simpa [reach] using h
    obtain ⟨s, hs, rfl⟩ := List.mem_map.1 h
    exact ⟨s.2, (hi.walk s hs).1⟩
  · rintro ⟨t, hw⟩
    suffices h : v ∈ (told g fs).map (·.1) by simpa [reach] using h
    have key : ∀ l, Walk g (fun a => (a : Int) ∈ fs) l → ∀ v t, l = v :: t → v ∈ (told g fs).map (·.1) := by
      intro l hl
      induction hl with
      | one a ha hS =>
        intro v t e
        injection e with e1 e2; subst e1
        rcases hi.first (a : Int) hS (isP_iff.2 ⟨by omega, by omega⟩) with h3 | h3
        · exact h3
        · cases h3
      | on u v t h he ih =>
        intro v2 t2 e
        injection e with e1 e2; subst e1
        have hu := ih u t rfl
        obtain ⟨s, hs, hs1⟩ := List.mem_map.1 hu
        have he' := E_iff.1 he
        rcases hi.next s hs (v : Int) (by rw [hs1]; exact he'.2.2) (isP_iff.2 ⟨by omega, by omega⟩) with h3 | h3
        · exact h3
        · cases h3
    exact key _ hw v t rfl

theorem nodup_len : ∀ (n : Nat) (l : List Nat), l.Nodup → (∀ x ∈ l, x < n) → l.length ≤ n := by
  intro n
  induction n with
  | zero => intro l _ h; cases l with
    | nil => simp
    | cons x l => exact absurd (h x (by simp)) (by omega)
  | succ n ih =>
    intro l hl h
    by_cases hn : n ∈ l
    · have h1 := List.length_erase_of_mem hn
      have h2 := ih (l.erase n) (hl.erase n) (fun x hx => by
        have := (hl.mem_erase_iff).1 hx
        have := h x this.2
        omega)
      omega
    · have := ih l hl (fun x hx => by
        have h1 := h x hx
        have : x ≠ n := fun e => hn (e ▸ hx)
        omega)
      omega

theorem told_short {g : List (List Int)} {fs : List Int} {v : Nat} {t : List Nat} (h : (v, t) ∈ told g fs) : (v :: t).length ≤ g.length := by
  have := (told_inv g fs).walk _ h
  exact nodup_len _ _ this.2.1 this.1.all

end Go.Proofs.YtbknmapkdjmcjaaGreatDoor.Gm

namespace Go.Proofs.YtbknmapkdjmcjaaGreatDoor.Gm

/-- Ways back, the shorter ahead, else by places from where they begin. -/
def rlt : List Nat → List Nat → Prop
  | _, [] => False
  | [], _ :: _ => True
  | x :: xs, y :: ys => rlt xs ys ∨ (xs = ys ∧ x < y)

def rle (x y : List Nat) : Prop := x = y ∨ rlt x y

theorem rlt_irrefl : ∀ x, ¬ rlt x x
  | [] => by simp [rlt]
  | x :: xs => by
    rintro (h | ⟨_, h⟩)
    · exact rlt_irrefl xs h
    · omega

theorem rlt_nil (x : List Nat) : ¬ rlt x [] := by cases x <;> simp [rlt]
theorem rlt_trans : ∀ {x y z : List Nat}, rlt x y → rlt y z → rlt x z
  | x, [], _, h, _ => absurd h (rlt_nil x)
  | _, y :: ys, [], _, k => absurd k (rlt_nil (y :: ys))
  | [], _ :: _, _ :: _, _, _ => trivial
  | a :: x, b :: y, c :: z, h, k => by
    rcases h with h | ⟨rfl, h⟩ <;> rcases k with k | ⟨rfl, k⟩
    · exact .inl (rlt_trans h k)
    · exact .inl h
    · exact .inl k
    · exact .inr ⟨rfl, by omega⟩

theorem rlt_cons {x y : Nat} {xs ys : List Nat} (h : rlt xs ys) : rlt (x :: xs) (y :: ys) := .inl h
theorem rlt_self : ∀ (y : Nat) (xs : List Nat), rlt xs (y :: xs)
  | _, [] => trivial
  | _, x :: xs => .inl (rlt_self x xs)
theorem rlt_app (r : List Nat) : ∀ (xs : List Nat), xs ≠ [] → rlt r (xs ++ r)
  | [x], _ => rlt_self x r
  | x :: y :: xs, _ => rlt_trans (rlt_app r (y :: xs) (by simp)) (rlt_self x _)
  | [], h => (h rfl).elim
theorem rlt_len : ∀ (x y : List Nat), x.length < y.length → rlt x y
  | _, [], h => by simp at h
  | [], _ :: _, _ => trivial
  | a :: x, b :: y, h => .inl (rlt_len x y (by simpa using h))
theorem rlt_ext {u v : List Nat} (h : rlt u v) : ∀ (x y : List Nat), x.length = y.length → rlt (x ++ u) (y ++ v)
  | [], [], _ => h
  | a :: x, b :: y, e => .inl (rlt_ext h x y (by simpa using e))
theorem rle_trans {x y z : List Nat} (h : rle x y) (k : rle y z) : rle x z := by
  rcases h with rfl | h
  · exact k
  · rcases k with rfl | k
    · exact .inr h
    · exact .inr (rlt_trans h k)
theorem rle_antisymm {x y : List Nat} (h : rle x y) (k : rle y x) : x = y := by
  rcases h with rfl | h
  · rfl
  · rcases k with rfl | k
    · rfl
    · exact (rlt_irrefl _ (rlt_trans h k)).elim

/-- Each place's edges rise, and lead to places. -/
def Neat (g : List (List Int)) : Prop := ∀ a, a < g.length → (g.getD a []).Pairwise (· < ·) ∧ ∀ c ∈ g.getD a [], isP g c = true

def pth (s : Nat × List Nat) : List Nat := s.1 :: s.2
def qth (s : Int × List Nat) : List Nat := s.1.toNat :: s.2

structure Inv2 (g : List (List Int)) (a : Int) (L : List (Nat × List Nat)) (q : List (Int × List Nat)) : Prop where
  base : Inv1 g [a] L q
  inc : (L.map pth ++ q.map qth).Pairwise rlt
  least : ∀ s ∈ L, ∀ w, Walk g (fun b => (b : Int) ∈ [a]) (s.1 :: w) → rle (pth s) (s.1 :: w)

/-- A way to a place that has not been told is no less than one that waits. -/
theorem waits {g : List (List Int)} {a : Int} {L : List (Nat × List Nat)} {q : List (Int × List Nat)} (h : Inv2 g a L q) :
    ∀ l, Walk g (fun b => (b : Int) ∈ [a]) l → ∀ v t, l = v :: t → v ∉ L.map (·.1) → ∃ s ∈ q, rle (qth s) l := by
  intro l hl
  induction hl with
  | one b hb hS =>
    intro v t e hv
    injection e with e1 e2; subst e1
    rcases h.base.first (b : Int) hS (isP_iff.2 ⟨by omega, by omega⟩) with h3 | h3
    · exact absurd h3 hv
    · exact ⟨_, h3, .inl rfl⟩
  | on u v t hw he ih =>
    intro v2 t2 e hv
    injection e with e1 e2; subst e1
    by_cases hu : u ∈ L.map (·.1)
    · obtain ⟨s, hs, hs1⟩ := List.mem_map.1 hu
      have he' := E_iff.1 he
      rcases h.base.next s hs (v : Int) (by rw [hs1]; exact he'.2.2) (isP_iff.2 ⟨by omega, by omega⟩) with h3 | h3
      · exact absurd h3 hv
      · refine ⟨_, h3, ?_⟩
        have := h.least s hs t (by rw [hs1]; exact hw)
        rcases this with h4 | h4
        · left
          simp only [pth, qth, Int.toNat_natCast] at h4 ⊢
          rw [h4, hs1]
        · right
          simp only [pth, qth, Int.toNat_natCast] at h4 ⊢
          rw [hs1] at h4 ⊢
          exact .inl h4
    · obtain ⟨s, hs, hr⟩ := ih u t rfl hu
      exact ⟨s, hs, rle_trans hr (.inr (rlt_self _ _))⟩

theorem inv2_yes (g : List (List Int)) (hg : Neat g) (a : Int) (L : List (Nat × List Nat)) (p : Int) (t : List Nat) (q : List (Int × List Nat)) (h : Inv2 g a L ((p, t) :: q))
    (h1 : isP g p = true) (h2 : (L.map (·.1)).contains p.toNat = false) : Inv2 g a (L ++ [(p.toNat, t)]) (q ++ kids g p.toNat t) := by
  have hp := isP_iff.1 h1
  have hnot : p.toNat ∉ L.map (·.1) := by simpa using h2
  have hinc := h.inc
  rw [List.map_cons, List.pairwise_append, List.pairwise_cons] at hinc
  obtain ⟨hL, ⟨hs, hq⟩, hLq⟩ := hinc
  refine ⟨inv1_yes g [a] L p t q h.base h1 h2, ?_, ?_⟩
  · have hk : ((kids g p.toNat t).map qth).Pairwise rlt := by
      have hrow := hg p.toNat (by omega)
      unfold kids
      rw [List.map_map, List.pairwise_map]
      refine (List.Pairwise.and_mem.1 hrow.1).imp ?_
      rintro c d ⟨hc, hd, hcd⟩
      have h3 := isP_iff.1 (hrow.2 c hc)
      exact .inr ⟨rfl, by show c.toNat < d.toNat; omega⟩
    have hself : ∀ y ∈ (kids g p.toNat t).map qth, rlt (p.toNat :: t) y := by
      intro y hy
      obtain ⟨s, hs, rfl⟩ := List.mem_map.1 hy
      obtain ⟨c, _, rfl⟩ := List.mem_map.1 hs
      exact rlt_self _ _
    simp only [List.map_append, List.map_cons, List.map_nil, List.append_assoc, List.singleton_append]
    rw [List.pairwise_append, List.pairwise_cons, List.pairwise_append]
    refine ⟨hL, ⟨?_, hq, hk, ?_⟩, ?_⟩
    · intro y hy
      rcases List.mem_append.1 hy with hy | hy
      · exact hs y hy
      · exact hself y hy
    · intro x hx y hy
      obtain ⟨s, hsq, rfl⟩ := List.mem_map.1 hx
      obtain ⟨s2, hs2, rfl⟩ := List.mem_map.1 hy
      obtain ⟨c, _, rfl⟩ := List.mem_map.1 hs2
      refine .inl ?_
      rcases h.base.wait s (List.mem_cons_of_mem _ hsq) with ⟨h3, _⟩ | ⟨u, t', h3, h4, _⟩
      · rw [h3]; trivial
      · rw [h3]
        exact hLq (pth (u, t')) (List.mem_map.2 ⟨_, h4, rfl⟩) _ (List.mem_cons_self)
    · intro x hx y hy
      have hxs : rlt x (p.toNat :: t) := hLq x hx _ (List.mem_cons_self)
      rcases List.mem_cons.1 hy with rfl | hy
      · exact hxs
      · rcases List.mem_append.1 hy with hy | hy
        · exact hLq x hx y (List.mem_cons_of_mem _ hy)
        · exact rlt_trans hxs (hself y hy)
  · intro s hs' w hw
    rcases List.mem_append.1 hs' with hs' | hs'
    · exact h.least s hs' w hw
    · rw [List.mem_singleton] at hs'; subst hs'
      obtain ⟨s2, h3, h4⟩ := waits h _ hw _ _ rfl hnot
      refine rle_trans ?_ h4
      rcases List.mem_cons.1 h3 with rfl | h3
      · exact .inl rfl
      · exact .inr (hs _ (List.mem_map.2 ⟨_, h3, rfl⟩))

theorem inv2_no (g : List (List Int)) (a : Int) (L : List (Nat × List Nat)) (p : Int) (t : List Nat) (q : List (Int × List Nat)) (h : Inv2 g a L ((p, t) :: q))
    (h1 : isP g p = false ∨ (L.map (·.1)).contains p.toNat = true) : Inv2 g a L q := by
  refine ⟨inv1_no g [a] L p t q h.base h1, ?_, h.least⟩
  refine h.inc.sublist ?_
  exact (List.Sublist.refl _).append (List.sublist_cons_self _ _)

theorem told_inv2 (g : List (List Int)) (hg : Neat g) (a : Int) : Inv2 g a (told g [a]) [] := by
  have := bfs_ind g (Inv2 g a) (inv2_yes g hg a) (inv2_no g a) (fuel g 1) [] [(a, [])] ?_ (by simp [mu, fuel])
  · exact this
  · refine ⟨?_, by simp, by simp⟩
    refine ⟨by simp, fun s hs => ?_, by simp, fun c hc _ => ?_, by simp⟩
    · rw [List.mem_singleton] at hs; subst hs; exact .inl ⟨rfl, by simp⟩
    · rw [List.mem_singleton] at hc; subst hc; exact .inr (by simp)

/-- A graph by its edges, each place's rising. -/
def gr (n : Nat) (R : Nat → Nat → Bool) : List (List Int) := (List.range n).map fun a => ((List.range n).filter (R a)).map fun (b : Nat) => (b : Int)
theorem gr_length (n : Nat) (R : Nat → Nat → Bool) : (gr n R).length = n := by simp [gr]
theorem gr_row {n : Nat} {R : Nat → Nat → Bool} {a : Nat} (ha : a < n) : (gr n R).getD a [] = ((List.range n).filter (R a)).map fun (b : Nat) => (b : Int) := by
  unfold gr; rw [List.getD_eq_getElem?_getD, List.getElem?_map, List.getElem?_range ha]; rfl
theorem gr_mem {n : Nat} {R : Nat → Nat → Bool} {a : Nat} (ha : a < n) (c : Int) : c ∈ (gr n R).getD a [] ↔ ∃ b : Nat, c = b ∧ b < n ∧ R a b = true := by
  rw [gr_row ha, List.mem_map]
  constructor
  · rintro ⟨b, hb, rfl⟩
    rw [List.mem_filter, List.mem_range] at hb
    exact ⟨b, rfl, hb.1, hb.2⟩
  · rintro ⟨b, rfl, h1, h2⟩
    exact ⟨b, by rw [List.mem_filter, List.mem_range]; exact ⟨h1, h2⟩, rfl⟩
theorem gr_E (n : Nat) (R : Nat → Nat → Bool) (a b : Nat) : E (gr n R) a b = true ↔ a < n ∧ b < n ∧ R a b = true := by
  rw [E_iff, gr_length]
  constructor
  · rintro ⟨h1, h2, h3⟩
    obtain ⟨c, hc, _, h4⟩ := (gr_mem h1 _).1 h3
    obtain rfl : b = c := by omega
    exact ⟨h1, h2, h4⟩
  · rintro ⟨h1, h2, h3⟩
    exact ⟨h1, h2, (gr_mem h1 _).2 ⟨b, rfl, h2, h3⟩⟩
theorem gr_neat (n : Nat) (R : Nat → Nat → Bool) : Neat (gr n R) := by
  intro a ha
  rw [gr_length] at ha
  refine ⟨?_, fun c hc => ?_⟩
  · rw [gr_row ha, List.pairwise_map]
    refine List.Pairwise.imp ?_ ((List.pairwise_lt_range).filter _)
    intro x y h; omega
  · obtain ⟨b, rfl, hb, _⟩ := (gr_mem ha c).1 hc
    exact isP_iff.2 ⟨by omega, by rw [gr_length]; omega⟩
theorem gr_ext (n : Nat) {R T : Nat → Nat → Bool} (h : ∀ a b, a < n → b < n → R a b = T a b) : gr n R = gr n T := by
  unfold gr
  refine List.map_congr_left fun a ha => ?_
  rw [List.mem_range] at ha
  have : (List.range n).filter (R a) = (List.range n).filter (T a) := List.filter_congr fun b hb => h a b ha (List.mem_range.1 hb)
  rw [this]

/-- The graph, clean; and turned. -/
def clean (g : List (List Int)) : List (List Int) := gr g.length (E g)
def turn (g : List (List Int)) : List (List Int) := gr g.length fun a b => E g b a
theorem clean_E (g : List (List Int)) (a b : Nat) : E (clean g) a b = E g a b := by
  rw [Bool.eq_iff_iff, clean, gr_E]
  exact ⟨fun h => h.2.2, fun h => ⟨(E_iff.1 h).1, (E_iff.1 h).2.1, h⟩⟩
theorem turn_E (g : List (List Int)) (a b : Nat) : E (turn g) a b = E g b a := by
  rw [Bool.eq_iff_iff, turn, gr_E]
  exact ⟨fun h => h.2.2, fun h => ⟨(E_iff.1 h).2.1, (E_iff.1 h).1, h⟩⟩
theorem clean_length (g : List (List Int)) : (clean g).length = g.length := gr_length _ _
theorem turn_length (g : List (List Int)) : (turn g).length = g.length := gr_length _ _
theorem turn_turn (g : List (List Int)) : turn (turn g) = clean g := by
  unfold clean
  rw [turn, turn_length]
  exact gr_ext _ fun a b _ _ => turn_E g b a

theorem Walk.congr {g g' : List (List Int)} {S : Nat → Prop} (hn : g'.length = g.length) (hE : ∀ a b, E g' a b = E g a b) {l : List Nat} (h : Walk g S l) : Walk g' S l := by
  induction h with
  | one a ha hS => exact .one a (by omega) hS
  | on u v t h he ih => exact .on u v t ih (by rw [hE]; exact he)

/-- A way that begins at a and ends at b, that no other is ahead of. -/
def Least (g : List (List Int)) (a b : Nat) (l : List Nat) : Prop :=
  (∃ t, l = b :: t) ∧ Walk g (· = a) l ∧ ∀ t, Walk g (· = a) (b :: t) → rle l (b :: t)

theorem Least.uniq {g : List (List Int)} {a b : Nat} {l k : List Nat} (h : Least g a b l) (h' : Least g a b k) : l = k := by
  obtain ⟨⟨t, rfl⟩, h1, h2⟩ := h
  obtain ⟨⟨u, rfl⟩, h3, h4⟩ := h'
  exact rle_antisymm (h2 u h3) (h4 t h1)

theorem Walk.mono {g : List (List Int)} {S T : Nat → Prop} (h : ∀ a, S a → T a) {l : List Nat} (hl : Walk g S l) : Walk g T l := by
  induction hl with
  | one a ha hS => exact .one a ha (h a hS)
  | on u v t _ he ih => exact .on u v t ih he

theorem one_iff (a : Nat) (b : Nat) : ((b : Int) ∈ [(a : Int)]) ↔ b = a := by rw [List.mem_singleton]; omega

/-- What the walk through the clean graph tells of b is the least way. -/
theorem told_least {g : List (List Int)} {a : Nat} {s : Nat × List Nat} (h : s ∈ told (clean g) [(a : Int)]) : Least g a s.1 (pth s) := by
  have hi := told_inv2 (clean g) (gr_neat _ _) (a : Int)
  have hw := (hi.base.walk s h).1
  refine ⟨⟨s.2, rfl⟩, ?_, fun t ht => ?_⟩
  · exact (hw.mono fun b hb => (one_iff a b).1 hb).congr (clean_length g).symm fun x y => (clean_E g x y).symm
  · exact hi.least s h t ((ht.mono fun b hb => (one_iff a b).2 hb).congr (clean_length g) fun x y => clean_E g x y)

/-- The way that is handed back. -/
def way (g : List (List Int)) (a b : Int) : List Nat :=
  match (told (clean g) [a]).find? (fun s => (s.1 : Int) == b) with
  | some s => (pth s).reverse
  | none => []

theorem told_none {g : List (List Int)} {a : Int} (h : isP g a = false) : told g [a] = [] := by
  have : fuel g [a].length = out g [] + 1 := by simp [fuel]; omega
  unfold told
  rw [this]
  show bfs g (out g [] + 1) [] ((a, []) :: []) = []
  rw [bfs_no (.inl h)]
  cases out g [] <;> rfl

theorem reach_clean (g : List (List Int)) (fs : List Int) (v : Nat) : reach (clean g) fs v = reach g fs v := by
  rw [Bool.eq_iff_iff, reach_iff, reach_iff]
  exact ⟨fun ⟨t, h⟩ => ⟨t, h.congr (clean_length g).symm fun x y => (clean_E g x y).symm⟩, fun ⟨t, h⟩ => ⟨t, h.congr (clean_length g) fun x y => clean_E g x y⟩⟩

theorem way_some {g : List (List Int)} {a b : Nat} (h : reach g [(a : Int)] b = true) : Least g a b (way g a b).reverse := by
  rw [← reach_clean] at h
  have h : b ∈ (told (clean g) [(a : Int)]).map (·.1) := by simpa [reach] using h
  unfold way
  cases hf : (told (clean g) [(a : Int)]).find? (fun s => (s.1 : Int) == (b : Int)) with
  | none =>
    obtain ⟨s, hs, rfl⟩ := List.mem_map.1 h
    have := List.find?_eq_none.1 hf s hs
    simp at this
  | some s =>
    have h1 := List.mem_of_find?_eq_some hf
    have h2 := List.find?_some hf
    have h3 : s.1 = b := by rw [beq_iff_eq] at h2; omega
    have := told_least h1
    rw [h3] at this
    simpa using this

theorem way_none {g : List (List Int)} {a b : Int} (h : ∀ v : Nat, (v : Int) = b → reach g [a] v = false) : way g a b = [] := by
  unfold way
  cases hf : (told (clean g) [a]).find? (fun s => (s.1 : Int) == b) with
  | none => rfl
  | some s =>
    have h1 := List.mem_of_find?_eq_some hf
    have h2 : (s.1 : Int) = b := by simpa using List.find?_some hf
    have := h s.1 h2
    rw [← reach_clean] at this
    have h4 : s.1 ∈ (told (clean g) [a]).map (·.1) := List.mem_map.2 ⟨s, h1, rfl⟩
    simp [reach] at this
    exact absurd h1 (this s.2)

theorem reach_lt {g : List (List Int)} {fs : List Int} {v : Nat} (h : reach g fs v = true) : v < g.length := by
  obtain ⟨t, ht⟩ := (reach_iff g fs v).1 h
  exact ht.head

theorem reach_out {g : List (List Int)} {a : Int} (h : isP g a = false) (v : Nat) : reach g [a] v = false := by
  unfold reach; rw [told_none h]; rfl

/-- Forward. -/
inductive Fw (g : List (List Int)) (b : Nat) : List Nat → Prop
  | one (hb : b < g.length) : Fw g b [b]
  | on (v u : Nat) (l : List Nat) (h : Fw g b (u :: l)) (he : E g v u = true) : Fw g b (v :: u :: l)

theorem Fw.walk {g : List (List Int)} {b : Nat} {S : Nat → Prop} {k : List Nat} (h : Fw g b k) : ∀ v l t, k = v :: l → Walk g S (v :: t) → Walk g S (l.reverse ++ v :: t) ∧ ∃ r, l.reverse ++ v :: t = b :: r := by
  induction h with
  | one hb =>
    intro v l t e hw
    injection e with e1 e2; subst e1 e2
    exact ⟨hw, t, rfl⟩
  | on v u l h he ih =>
    intro v2 l2 t e hw
    injection e with e1 e2; subst e1 e2
    have := ih u l (v :: t) rfl (.on v u t hw he)
    simpa using this

theorem Walk.fw {g : List (List Int)} {a b : Nat} {k : List Nat} (h : Walk g (· = a) k) : ∀ v t l, k = v :: t → Fw g b (v :: l) → Fw g b (t.reverse ++ v :: l) ∧ ∃ r, t.reverse ++ v :: l = a :: r := by
  induction h with
  | one a' ha hS =>
    intro v t l e hf
    injection e with e1 e2; subst e1 e2
    subst hS
    exact ⟨hf, l, rfl⟩
  | on u v t h he ih =>
    intro v2 t2 l e hf
    injection e with e1 e2; subst e1 e2
    have := ih u t (v :: l) rfl (.on u v l hf he)
    simpa using this

theorem Fw.head {g : List (List Int)} {b v : Nat} {l : List Nat} (h : Fw g b (v :: l)) : v < g.length := by
  cases h with
  | one hb => exact hb
  | on _ u l h he => exact (E_iff.1 he).1

/-- j edges lead from v to b. -/
def R (g : List (List Int)) (b j v : Nat) : Prop := ∃ l, Fw g b (v :: l) ∧ l.length = j

/-- How far it is, as the document reckons, after k rounds. -/
def dAt (g : List (List Int)) (b : Nat) : Nat → Nat → Int
  | 0, v => if v = b then 0 else -1
  | k + 1, v => if 0 ≤ dAt g b k v then dAt g b k v else if (List.range g.length).any (fun u => E g v u && dAt g b k u == (k : Int)) then (k : Int) + 1 else -1

theorem R_zero {g : List (List Int)} {b v : Nat} (h : R g b 0 v) : v = b := by
  obtain ⟨l, hl, h0⟩ := h
  have : l = [] := List.eq_nil_of_length_eq_zero h0
  subst this
  cases hl; rfl

theorem R_succ {g : List (List Int)} {b v k : Nat} : R g b (k + 1) v ↔ ∃ u, E g v u = true ∧ R g b k u := by
  constructor
  · rintro ⟨l, hl, h0⟩
    cases hl with
    | one _ => cases h0
    | on _ u l h he => exact ⟨u, he, l, h, by simpa using h0⟩
  · rintro ⟨u, he, l, hl, h0⟩
    exact ⟨u :: l, .on v u l hl he, by simp [h0]⟩

theorem dAt_spec (g : List (List Int)) (b : Nat) (hb : b < g.length) : ∀ k v, (∃ j, j ≤ k ∧ R g b j v ∧ (∀ i, i < j → ¬ R g b i v) ∧ dAt g b k v = j) ∨ ((∀ j, j ≤ k → ¬ R g b j v) ∧ dAt g b k v = -1) := by
  intro k
  induction k with
  | zero =>
    intro v
    by_cases hv : v = b
    · left; subst hv
      exact ⟨0, Nat.le_refl _, ⟨[], .one hb, rfl⟩, fun i hi => absurd hi (by omega), by simp [dAt]⟩
    · right
      refine ⟨fun j hj h => ?_, by simp [dAt, hv]⟩
      obtain rfl : j = 0 := by omega
      exact hv (R_zero h)
  | succ k ih =>
    intro v
    rcases ih v with ⟨j, hj, h1, h2, h3⟩ | ⟨h1, h2⟩
    · left
      refine ⟨j, by omega, h1, h2, ?_⟩
      rw [dAt, if_pos (by rw [h3]; omega), h3]
    · by_cases ha : (List.range g.length).any (fun u => E g v u && dAt g b k u == (k : Int)) = true
      · left
        obtain ⟨u, hu, he⟩ := List.any_eq_true.1 ha
        rw [Bool.and_eq_true, beq_iff_eq] at he
        have hR : R g b (k + 1) v := by
          rcases ih u with ⟨j, _, h3, _, h4⟩ | ⟨_, h4⟩
          · have : j = k := by rw [he.2] at h4; omega
            subst this
            exact R_succ.2 ⟨u, he.1, h3⟩
          · rw [he.2] at h4; omega
        refine ⟨k + 1, Nat.le_refl _, hR, fun i hi => h1 i (by omega), ?_⟩
        rw [dAt, if_neg (by rw [h2]; omega), if_pos ha]; simp
      · right
        refine ⟨fun j hj h => ?_, by rw [dAt, if_neg (by rw [h2]; omega), if_neg ha]⟩
        by_cases hjk : j ≤ k
        · exact h1 j hjk h
        · obtain rfl : j = k + 1 := by omega
          obtain ⟨u, he, hu⟩ := R_succ.1 h
          refine ha (List.any_eq_true.2 ⟨u, List.mem_range.2 (E_iff.1 he).2.1, ?_⟩)
          rw [Bool.and_eq_true, beq_iff_eq]
          refine ⟨he, ?_⟩
          rcases ih u with ⟨i, hi, h3, h4, h5⟩ | ⟨h3, _⟩
          · have : ¬ i < k := fun hik => h1 (i + 1) (by omega) (R_succ.2 ⟨u, he, h3⟩)
            rw [h5]; omega
          · exact absurd hu (h3 k (Nat.le_refl _))

/-- The way of the document, from where m edges are left. -/
def nxt (g : List (List Int)) (d : Nat → Int) (v : Nat) (m : Int) : Option Nat := (List.range g.length).find? fun u => E g v u && d u == m
def gw (g : List (List Int)) (d : Nat → Int) : Nat → Nat → List Nat
  | 0, v => [v]
  | m + 1, v => v :: gw g d m ((nxt g d v m).getD 0)

theorem gw_len (g : List (List Int)) (d : Nat → Int) : ∀ m v, (gw g d m v).length = m + 1
  | 0, _ => rfl
  | m + 1, _ => by simp [gw, gw_len g d m]

theorem gw_head (g : List (List Int)) (d : Nat → Int) : ∀ m v, ∃ l, gw g d m v = v :: l ∧ l.length = m
  | 0, _ => ⟨[], rfl, rfl⟩
  | m + 1, _ => ⟨_, rfl, gw_len g d m _⟩

theorem d_zero {g : List (List Int)} {b : Nat} (hb : b < g.length) (k : Nat) {v : Nat} : dAt g b k v = 0 ↔ v = b := by
  rcases dAt_spec g b hb k v with ⟨j, hj, h1, h2, h3⟩ | ⟨h1, h2⟩
  · rw [h3]
    constructor
    · intro e
      obtain rfl : j = 0 := by omega
      exact R_zero h1
    · rintro rfl
      have : ¬ 0 < j := fun h => h2 0 h ⟨[], .one hb, rfl⟩
      omega
  · rw [h2]
    constructor
    · intro e; omega
    · rintro rfl
      exact absurd ⟨[], .one hb, rfl⟩ (h1 0 (by omega))

/-- Where m + 1 edges are left there is a next place, and none that is less will do. -/
theorem nxt_some {g : List (List Int)} {b : Nat} (hb : b < g.length) {k v m : Nat} (h : dAt g b k v = (m : Int) + 1) :
    ∃ u, nxt g (dAt g b k) v m = some u ∧ E g v u = true ∧ dAt g b k u = m ∧ ∀ x, E g v x = true → dAt g b k x = m → u ≤ x := by
  have hex : ∃ x, E g v x = true ∧ dAt g b k x = m := by
    rcases dAt_spec g b hb k v with ⟨j, hj, h1, h2, h3⟩ | ⟨_, h2⟩
    · obtain rfl : j = m + 1 := by omega
      obtain ⟨x, he, hx⟩ := R_succ.1 h1
      refine ⟨x, he, ?_⟩
      rcases dAt_spec g b hb k x with ⟨i, hi, h4, h5, h6⟩ | ⟨h4, _⟩
      · have h7 : ¬ i < m := fun hik => h2 (i + 1) (by omega) (R_succ.2 ⟨x, he, h4⟩)
        have h8 : ¬ m < i := fun hmi => h5 m hmi hx
        rw [h6]; omega
      · exact absurd hx (h4 m (by omega))
    · omega
  obtain ⟨x, hx1, hx2⟩ := hex
  cases hf : nxt g (dAt g b k) v m with
  | none =>
    have := List.find?_eq_none.1 hf x (List.mem_range.2 (E_iff.1 hx1).2.1)
    simp [hx1, hx2] at this
  | some u =>
    have h1 := List.find?_some hf
    rw [Bool.and_eq_true, beq_iff_eq] at h1
    refine ⟨u, rfl, h1.1, h1.2, fun y hy1 hy2 => ?_⟩
    unfold nxt at hf
    obtain ⟨_, i, hi, hu, hlt⟩ := List.find?_eq_some_iff_getElem.1 hf
    simp only [List.getElem_range] at hu hlt
    subst hu
    by_cases hyi : y < i
    · have := hlt y hyi
      simp [hy1, hy2] at this
    · omega

theorem gw_fw {g : List (List Int)} {b : Nat} (hb : b < g.length) {k : Nat} : ∀ (m v : Nat), dAt g b k v = (m : Int) → Fw g b (gw g (dAt g b k) m v) := by
  intro m
  induction m with
  | zero =>
    intro v h
    obtain rfl := (d_zero hb k).1 h
    exact .one hb
  | succ m ih =>
    intro v h
    obtain ⟨u, hu, he, hd, _⟩ := nxt_some hb (v := v) (m := m) (by rw [h]; rfl)
    rw [gw, hu]
    show Fw g b (v :: gw g (dAt g b k) m u)
    obtain ⟨l, hl, _⟩ := gw_head g (dAt g b k) m u
    have := ih u hd
    rw [hl] at this ⊢
    exact .on v u l this he

theorem gw_least {g : List (List Int)} {b : Nat} (hb : b < g.length) {k : Nat} : ∀ (m v : Nat) (l r : List Nat), dAt g b k v = (m : Int) → Fw g b (v :: l) → rle ((gw g (dAt g b k) m v).reverse ++ r) ((v :: l).reverse ++ r) := by
  intro m
  induction m with
  | zero =>
    intro v l r h hf
    by_cases hl : l = []
    · subst hl; exact .inl rfl
    · right
      show rlt ([v].reverse ++ r) _
      simp only [List.reverse_cons, List.reverse_nil, List.nil_append, List.append_assoc, List.singleton_append]
      exact rlt_app _ _ (by simpa using hl)
  | succ m ih =>
    intro v l r h hf
    obtain ⟨w, hw, he, hd, hmin⟩ := nxt_some hb (v := v) (m := m) (by rw [h]; rfl)
    have hg : gw g (dAt g b k) (m + 1) v = v :: gw g (dAt g b k) m w := by rw [gw, hw]; rfl
    rw [hg]
    cases hf with
    | one _ => have := (d_zero hb k (v := b)).2 rfl; omega
    | on _ u l hf' he' =>
      have hR : R g b (l.length + 1) v := R_succ.2 ⟨u, he', l, hf', rfl⟩
      have hle : m ≤ l.length := by
        rcases dAt_spec g b hb k v with ⟨j, hj, h1, h2, h3⟩ | ⟨_, h2⟩
        · have : ¬ l.length + 1 < j := fun hlt => h2 _ hlt hR
          omega
        · omega
      obtain ⟨tl, htl, htm⟩ := gw_head g (dAt g b k) m w
      rcases Nat.lt_or_ge m l.length with hlt | hge
      · right
        refine rlt_len _ _ ?_
        simp [gw_len]; omega
      · have hlen : l.length = m := by omega
        have hdu : dAt g b k u = m := by
          have hkm : m + 1 ≤ k := by
            rcases dAt_spec g b hb k v with ⟨j, hj, _, _, h3⟩ | ⟨_, h2⟩ <;> omega
          rcases dAt_spec g b hb k u with ⟨j, hj, h1, h2, h3⟩ | ⟨h1, _⟩
          · have h7 : ¬ m < j := fun hmj => h2 m hmj ⟨l, hf', hlen⟩
            have h8 : ¬ j < m := fun hjm => by
              rcases dAt_spec g b hb k v with ⟨i, hi, h4, h5, h6⟩ | ⟨_, h6⟩
              · exact h5 (j + 1) (by omega) (R_succ.2 ⟨u, he', h1⟩)
              · omega
            rw [h3]; omega
          · exact absurd ⟨l, hf', hlen⟩ (h1 m (by omega))
        have hwu := hmin u he' hdu
        rcases Nat.lt_or_ge w u with hlt | hge2
        · right
          rw [htl]
          simp only [List.reverse_cons, List.append_assoc, List.singleton_append]
          refine rlt_ext ?_ _ _ (by simp [htm, hlen])
          exact .inr ⟨rfl, hlt⟩
        · obtain rfl : w = u := by omega
          have := ih w l (v :: r) hd hf'
          simpa using this

/-- The document's way is the least one. -/
theorem gw_Least {g : List (List Int)} {a b : Nat} (hb : b < g.length) {k m : Nat} (h : dAt g b k a = (m : Int)) : Least g a b (gw g (dAt g b k) m a).reverse := by
  have hf := gw_fw hb m a h
  obtain ⟨l, hl, _⟩ := gw_head g (dAt g b k) m a
  rw [hl] at hf
  have ha := hf.head
  have hw := hf.walk (S := (· = a)) a l [] rfl (.one a ha rfl)
  rw [hl]
  refine ⟨?_, ?_, fun t ht => ?_⟩
  · simpa using hw.2
  · simpa using hw.1
  · have h2 := ht.fw b t [] rfl (.one hb)
    obtain ⟨h3, r, hr⟩ := h2
    rw [hr] at h3
    have := gw_least hb m a r [] h h3
    rw [hl, ← hr] at this
    simpa using this

theorem way_doc {g : List (List Int)} {a b : Nat} (hb : b < g.length) {k m : Nat} (h : dAt g b k a = (m : Int)) : way g a b = gw g (dAt g b k) m a := by
  have h1 := gw_Least hb h
  have hr : reach g [(a : Int)] b = true := by
    rw [reach_iff]
    obtain ⟨⟨t, ht⟩, h2, _⟩ := h1
    rw [ht] at h2
    exact ⟨t, h2.mono fun x hx => (one_iff a x).2 hx⟩
  have := (way_some hr).uniq h1
  simpa using congrArg List.reverse this

theorem way_far {g : List (List Int)} {a b : Nat} (hb : b < g.length) {k : Nat} (hk : g.length ≤ k) (h : dAt g b k a < 0) : way g a b = [] := by
  refine way_none fun v hv => ?_
  obtain rfl : v = b := by omega
  cases hr : reach g [(a : Int)] v
  · rfl
  · exfalso
    have hm : v ∈ (told g [(a : Int)]).map (·.1) := by simpa [reach] using hr
    obtain ⟨s, hs, hs1⟩ := List.mem_map.1 hm
    have hsh := told_short (v := s.1) (t := s.2) hs
    have hw := ((told_inv g [(a : Int)]).walk s hs).1
    rw [hs1] at hw hsh
    have h2 := (hw.mono fun x hx => (one_iff a x).1 hx).fw v s.2 [] rfl (.one hb)
    obtain ⟨h3, r, hr⟩ := h2
    have hlen : r.length = s.2.length := by
      have := congrArg List.length hr
      simpa using this.symm
    rw [hr] at h3
    have h1 := dAt_spec g v hb k a
    rcases h1 with ⟨j, _, _, _, h5⟩ | ⟨h5, _⟩
    · omega
    · exact h5 s.2.length (by simp at hsh; omega) ⟨r, h3, hlen⟩

/-- What is reached from a place, turned, reaches it. -/
theorem reach_turn (g : List (List Int)) (a b : Nat) : reach (turn g) [(b : Int)] a = reach g [(a : Int)] b := by
  have key : ∀ (g : List (List Int)) (a b : Nat), reach g [(a : Int)] b = true → reach (turn g) [(b : Int)] a = true := by
    intro g a b h
    obtain ⟨t, ht⟩ := (reach_iff _ _ _).1 h
    have ht := ht.mono fun x hx => (one_iff a x).1 hx
    have hb := ht.head
    obtain ⟨h3, r, hr⟩ := ht.fw b t [] rfl (.one hb)
    rw [hr] at h3
    have conv : ∀ k, Fw g b k → Walk (turn g) (· = b) k := by
      intro k hk
      induction hk with
      | one hb => exact .one b (by rw [turn_length]; exact hb) rfl
      | on v u l _ he ih => exact .on u v l ih (by rw [turn_E]; exact he)
    exact (reach_iff _ _ _).2 ⟨r, (conv _ h3).mono fun x hx => (one_iff b x).2 hx⟩
  rw [Bool.eq_iff_iff]
  refine ⟨fun h => ?_, key g a b⟩
  have h2 := key _ _ _ h
  rw [turn_turn, reach_clean] at h2
  exact h2

end Go.Proofs.YtbknmapkdjmcjaaGreatDoor.Gm
