/-
  GRAPHS, in plain mathematics: a trail that goes over a graph, to each place once; who leads to one another; circles. GRAPHS, in plain mathematics: knots, which are places that lead to one another; who is on a circle.
-/
import Derived.Below
namespace Go.Proofs.Ytlfgnoicjogfpaa.Cy

/-- A way of no edge or more. -/
inductive Way (E : Nat → Nat → Prop) : Nat → Nat → Prop
  | here (a : Nat) : Way E a a
  | on {a b c : Nat} : E a b → Way E b c → Way E a c

theorem Way.trans {E : Nat → Nat → Prop} {a b c : Nat} (h : Way E a b) (k : Way E b c) : Way E a c := by
  induction h with
  | here _ => exact k
  | on h1 _ ih => exact .on h1 (ih k)
theorem Way.one {E : Nat → Nat → Prop} {a b : Nat} (h : E a b) : Way E a b := .on h (.here b)
theorem Way.snoc {E : Nat → Nat → Prop} {a b c : Nat} (h : Way E a b) (k : E b c) : Way E a c := h.trans (.one k)
theorem Way.turn {E : Nat → Nat → Prop} {a b : Nat} (h : Way E a b) : Way (fun x y => E y x) b a := by
  induction h with
  | here a => exact .here a
  | on h1 _ ih => exact ih.snoc h1
theorem Way.unturn {E : Nat → Nat → Prop} {a b : Nat} (h : Way (fun x y => E y x) b a) : Way E a b := by
  have := h.turn
  exact this
theorem Way.mono {E F : Nat → Nat → Prop} (hEF : ∀ a b, E a b → F a b) {a b : Nat} (h : Way E a b) : Way F a b := by
  induction h with
  | here a => exact .here a
  | on h1 _ ih => exact .on (hEF _ _ h1) ih

/-- A way all of whose places but the last one are in S. -/
inductive Via (E : Nat → Nat → Prop) (S : Nat → Prop) : Nat → Nat → Prop
  | one {a b : Nat} : S a → E a b → Via E S a b
  | on {a b c : Nat} : S a → E a b → Via E S b c → Via E S a c

theorem Via.way {E : Nat → Nat → Prop} {S : Nat → Prop} {a b : Nat} (h : Via E S a b) : Way E a b := by
  induction h with
  | one _ h => exact .one h
  | on _ h _ ih => exact .on h ih
theorem Via.head {E : Nat → Nat → Prop} {S : Nat → Prop} {a b : Nat} (h : Via E S a b) : S a := by
  cases h with
  | one h _ => exact h
  | on h _ _ => exact h

/-- The first place of a way that is not in S. -/
theorem Way.leave {E : Nat → Nat → Prop} {S : Nat → Prop} {a b : Nat} (h : Way E a b) (ha : S a) (hb : ¬ S b) : ∃ y, ¬ S y ∧ Via E S a y ∧ Way E y b := by
  induction h with
  | here a => exact absurd ha hb
  | @on a c b h1 h2 ih =>
    by_cases hc : S c
    · obtain ⟨y, h3, h4, h5⟩ := ih hc hb
      exact ⟨y, h3, .on ha h1 h4, h5⟩
    · exact ⟨c, hc, .one ha h1, h2⟩

/-- With v put to S: the way had none of v, or there is a way from v on that has none of it any more, and one to v. -/
theorem Via.split {E : Nat → Nat → Prop} {S : Nat → Prop} {v a b : Nat} (h : Via E (fun x => S x ∨ x = v) a b) :
    (Via E S a b) ∨ ((a = v ∨ Via E S a v) ∧ (E v b ∨ ∃ x, E v x ∧ Via E S x b)) := by
  induction h with
  | @one a b hs he =>
    rcases hs with hs | rfl
    · exact .inl (.one hs he)
    · exact .inr ⟨.inl rfl, .inl he⟩
  | @on a c b hs he hv ih =>
    rcases ih with ih | ⟨ih1, ih2⟩
    · rcases hs with hs | rfl
      · exact .inl (.on hs he ih)
      · exact .inr ⟨.inl rfl, .inr ⟨c, he, ih⟩⟩
    · refine .inr ⟨?_, ih2⟩
      rcases hs with hs | rfl
      · rcases ih1 with rfl | ih1
        · exact .inr (.one hs he)
        · exact .inr (.on hs he ih1)
      · exact .inl rfl

/-- Two places that lead to one another. -/
def Sim (E : Nat → Nat → Prop) (a b : Nat) : Prop := Way E a b ∧ Way E b a
theorem Sim.symm {E : Nat → Nat → Prop} {a b : Nat} (h : Sim E a b) : Sim E b a := ⟨h.2, h.1⟩
theorem Sim.trans {E : Nat → Nat → Prop} {a b c : Nat} (h : Sim E a b) (k : Sim E b c) : Sim E a c := ⟨h.1.trans k.1, k.2.trans h.2⟩
theorem Sim.refl {E : Nat → Nat → Prop} (a : Nat) : Sim E a a := ⟨.here a, .here a⟩

/-- The entered places, the last one first: each was come to from the next. -/
def Trail (E : Nat → Nat → Prop) : List Nat → Prop
  | [] => True
  | [_] => True
  | a :: b :: l => E b a ∧ Trail E (b :: l)

theorem Trail.tail {E : Nat → Nat → Prop} {a : Nat} {l : List Nat} (h : Trail E (a :: l)) : Trail E l := by
  cases l with
  | nil => trivial
  | cons b l => exact h.2
theorem Trail.way {E : Nat → Nat → Prop} : ∀ {a : Nat} {l : List Nat}, Trail E (a :: l) → ∀ x ∈ l, Way E x a
  | a, [], _, x, hx => by cases hx
  | a, b :: l, h, x, hx => by
    rcases List.mem_cons.1 hx with rfl | hx
    · exact .one h.1
    · exact (Trail.way h.2 x hx).snoc h.1

def EA (adj : Nat → List Nat) (a b : Nat) : Prop := b ∈ adj a

/-- No place of those left is left before all that its edges lead to, but for such as lead to it. -/
def Late (E : Nat → Nat → Prop) (L : List Nat) : Prop := ∀ v u, v ∈ L → Way E u v → ∀ a b, L = a ++ v :: b → ∃ w, w ∉ a ∧ Sim E w u

/-- A trail between two calls: L are the places that are left. -/
structure Rest (n : Nat) (adj : Nat → List Nat) (been : Nat → Bool) (ed : Nat → Nat) (L : List Nat) : Prop where
  mem : ∀ x, been x = true ↔ x ∈ L
  nodup : L.Nodup
  bound : ∀ x ∈ L, x < n
  gone : ∀ x j, j < ed x → ∀ y, (adj x)[j]? = some y → been y = true
  shut : ∀ u y, u ∈ L → EA adj u y → y ∈ L
  late : Late (EA adj) L
  edle : ∀ x, ed x ≤ (adj x).length

/-- A trail in a call from s on: st are the places that are entered, the last one first; left those that were left in it, L ahead of it. -/
structure Going (n : Nat) (adj : Nat → List Nat) (L : List Nat) (s : Nat) (been : Nat → Bool) (ed : Nat → Nat) (st left : List Nat) : Prop where
  mem : ∀ x, been x = true ↔ x ∈ st ∨ x ∈ L ++ left
  nodup : (st ++ (L ++ left)).Nodup
  bound : ∀ x ∈ st ++ (L ++ left), x < n
  gone : ∀ x j, j < ed x → ∀ y, (adj x)[j]? = some y → been y = true
  trail : Trail (EA adj) st
  fro : ∀ x, x ∈ st ∨ x ∈ left → Way (EA adj) s x
  via : ∀ u y, u ∈ L ++ left → y ∉ L ++ left → Via (EA adj) (· ∈ L ++ left) u y → y ∈ st ∧ Way (EA adj) y u
  late : Late (EA adj) (L ++ left)
  edle : ∀ x, ed x ≤ (adj x).length
  has : s ∈ st ∨ s ∈ left ∨ (st = [] ∧ left = [] ∧ s ∈ L)

theorem via_shut {E : Nat → Nat → Prop} {L : List Nat} (h : ∀ u y, u ∈ L → E u y → y ∈ L) {u y : Nat} (hu : u ∈ L) (hv : Via E (· ∈ L) u y) : y ∈ L := by
  induction hv with
  | one h1 h2 => exact h _ _ h1 h2
  | on h1 h2 h3 ih => exact ih (h _ _ h1 h2)

def updB (been : Nat → Bool) (y : Nat) : Nat → Bool := fun i => been i || i == y
def updE (ed : Nat → Nat) (p : Nat) : Nat → Nat := fun i => if i = p then ed p + 1 else ed i
theorem updB_iff {been : Nat → Bool} {y x : Nat} : updB been y x = true ↔ been x = true ∨ x = y := by simp [updB]

theorem Rest.old {n : Nat} {adj : Nat → List Nat} {been : Nat → Bool} {ed : Nat → Nat} {L : List Nat} {s : Nat} (h : Rest n adj been ed L) (hb : been s = true) : Going n adj L s been ed [] [] where
  mem x := by simp [h.mem x]
  nodup := by simpa using h.nodup
  bound := by simpa using h.bound
  gone := h.gone
  trail := trivial
  fro x hx := by simp at hx
  via u y hu hy hv := by
    simp only [List.append_nil] at hu hy hv
    exact absurd (via_shut h.shut hu hv) hy
  late := by simpa using h.late
  edle := h.edle
  has := .inr (.inr ⟨rfl, rfl, (h.mem s).1 hb⟩)

theorem Rest.new {n : Nat} {adj : Nat → List Nat} {been : Nat → Bool} {ed : Nat → Nat} {L : List Nat} {s : Nat} (h : Rest n adj been ed L) (hb : been s = false) (hs : s < n) : Going n adj L s (updB been s) ed [s] [] where
  mem x := by rw [updB_iff, h.mem x]; simp [or_comm]
  nodup := by
    have : s ∉ L := fun e => by rw [(h.mem s).2 e] at hb; cases hb
    simpa [this] using h.nodup
  bound x hx := by
    simp at hx
    rcases hx with rfl | hx
    · exact hs
    · exact h.bound x hx
  gone x j hj y hy := updB_iff.2 (.inl (h.gone x j hj y hy))
  trail := trivial
  fro x hx := by
    simp at hx; subst hx; exact .here _
  via u y hu hy hv := by
    simp only [List.append_nil] at hu hy hv
    exact absurd (via_shut h.shut hu hv) hy
  late := by simpa using h.late
  edle := h.edle
  has := .inl (by simp)

section
variable {n : Nat} {adj : Nat → List Nat} {been : Nat → Bool} {ed : Nat → Nat} {L : List Nat} {s p : Nat} {t left : List Nat}

theorem updE_le (h : ∀ x, ed x ≤ (adj x).length) (hp : ed p < (adj p).length) : ∀ x, updE ed p x ≤ (adj x).length := fun x => by
  unfold updE
  split
  · rename_i e; subst e; omega
  · exact h x

theorem Going.stay (h : Going n adj L s been ed (p :: t) left) {y : Nat} (hp : ed p < (adj p).length) (hy : (adj p)[ed p]? = some y) (hb : been y = true) : Going n adj L s been (updE ed p) (p :: t) left where
  mem := h.mem
  nodup := h.nodup
  bound := h.bound
  gone x j hj z hz := by
    unfold updE at hj
    by_cases e : x = p
    · rw [if_pos e] at hj
      subst e
      by_cases hj2 : j < ed x
      · exact h.gone x j hj2 z hz
      · have : j = ed x := by omega
        subst this
        rw [hy] at hz; injection hz with hz; subst hz; exact hb
    · rw [if_neg e] at hj
      exact h.gone x j hj z hz
  trail := h.trail
  fro := h.fro
  via := h.via
  late := h.late
  edle := updE_le h.edle hp
  has := h.has

theorem Going.enter (h : Going n adj L s been ed (p :: t) left) {y : Nat} (hyn : y < n) (hp : ed p < (adj p).length) (hy : (adj p)[ed p]? = some y) (hb : been y = false) : Going n adj L s (updB been y) (updE ed p) (y :: p :: t) left where
  mem x := by
    rw [updB_iff, h.mem x]
    simp only [List.mem_cons]
    constructor
    · rintro ((h1 | h1) | h1)
      · exact .inl (.inr h1)
      · exact .inr h1
      · exact .inl (.inl h1)
    · rintro ((h1 | h1) | h1)
      · exact .inr h1
      · exact .inl (.inl h1)
      · exact .inl (.inr h1)
  nodup := by
    have hn : y ∉ (p :: t) ++ (L ++ left) := fun e => by
      have := (h.mem y).2 (List.mem_append.1 e)
      rw [hb] at this; cases this
    show (y :: ((p :: t) ++ (L ++ left))).Nodup
    exact List.nodup_cons.2 ⟨hn, h.nodup⟩
  bound x hx := by
    have hx : x ∈ y :: ((p :: t) ++ (L ++ left)) := hx
    rcases List.mem_cons.1 hx with rfl | hx
    · exact hyn
    · exact h.bound x hx
  gone x j hj z hz := by
    unfold updE at hj
    by_cases e : x = p
    · rw [if_pos e] at hj
      subst e
      by_cases hj2 : j < ed x
      · exact updB_iff.2 (.inl (h.gone x j hj2 z hz))
      · have : j = ed x := by omega
        subst this
        rw [hy] at hz; injection hz with hz; subst hz
        exact updB_iff.2 (.inr rfl)
    · rw [if_neg e] at hj
      exact updB_iff.2 (.inl (h.gone x j hj z hz))
  trail := ⟨List.mem_of_getElem? hy, h.trail⟩
  fro x hx := by
    simp only [List.mem_cons] at hx
    rcases hx with (rfl | hx) | hx
    · exact (h.fro p (.inl (by simp))).snoc (List.mem_of_getElem? hy)
    · exact h.fro x (.inl (by simpa using hx))
    · exact h.fro x (.inr hx)
  via u z hu hz hv := by
    obtain ⟨h1, h2⟩ := h.via u z hu hz hv
    exact ⟨List.mem_cons_of_mem _ h1, h2⟩
  late := h.late
  edle := updE_le h.edle hp
  has := by
    rcases h.has with h1 | h1 | h1
    · exact .inl (List.mem_cons_of_mem _ h1)
    · exact .inr (.inl h1)
    · exact absurd h1.1 (by simp)

theorem Going.leave (h : Going n adj L s been ed (p :: t) left) (hp : (adj p).length ≤ ed p) : Going n adj L s been ed t (left ++ [p]) := by
  have hnd : p ∉ t ++ (L ++ left) ∧ (t ++ (L ++ left)).Nodup := List.nodup_cons.1 h.nodup
  have hpL : p ∉ L ++ left := fun e => hnd.1 (List.mem_append.2 (.inr e))
  have hmem : ∀ x, x ∈ L ++ (left ++ [p]) ↔ x ∈ L ++ left ∨ x = p := fun x => by simp [or_assoc]
  have hall : ∀ y, EA adj p y → y ∈ p :: t ∨ y ∈ L ++ left := fun y hy => by
    obtain ⟨j, hj, hj2⟩ := List.getElem_of_mem hy
    exact (h.mem y).1 (h.gone p j (by omega) y (by rw [List.getElem?_eq_getElem hj, hj2]))
  have hvia : ∀ u y, u ∈ L ++ (left ++ [p]) → y ∉ L ++ (left ++ [p]) → Via (EA adj) (· ∈ L ++ (left ++ [p])) u y → y ∈ t ∧ Way (EA adj) y u := by
    intro u y hu hy hv
    have hy1 : y ∉ L ++ left := fun e => hy ((hmem y).2 (.inl e))
    have hyp : y ≠ p := fun e => hy ((hmem y).2 (.inr e))
    have hv2 : Via (EA adj) (fun x => x ∈ L ++ left ∨ x = p) u y := by
      have : (fun x => x ∈ L ++ (left ++ [p])) = fun x => x ∈ L ++ left ∨ x = p := funext fun x => propext (hmem x)
      rw [← this]; exact hv
    have hst : ∀ z, z ∈ p :: t → z ≠ p → z ∈ t := fun z hz hn => by
      rcases List.mem_cons.1 hz with e | e
      · exact absurd e hn
      · exact e
    rcases hv2.split with h1 | ⟨h1, h2⟩
    · obtain ⟨h3, h4⟩ := h.via u y h1.head hy1 h1
      exact ⟨hst y h3 hyp, h4⟩
    · have hyt : y ∈ t := by
        rcases h2 with h2 | ⟨x, h2, h3⟩
        · rcases hall y h2 with h4 | h4
          · exact hst y h4 hyp
          · exact absurd h4 hy1
        · exact hst y (h.via x y h3.head hy1 h3).1 hyp
      have hyw : Way (EA adj) y p := h.trail.way y hyt
      refine ⟨hyt, ?_⟩
      rcases h1 with rfl | h1
      · exact hyw
      · exact hyw.trans (h.via u p h1.head hpL h1).2
  refine ⟨fun x => ?_, ?_, ?_, h.gone, h.trail.tail, fun x hx => ?_, hvia, ?_, h.edle, ?_⟩
  · rw [h.mem x, hmem]
    simp only [List.mem_cons]
    constructor
    · rintro ((h1 | h1) | h1)
      · exact .inr (.inr h1)
      · exact .inl h1
      · exact .inr (.inl h1)
    · rintro (h1 | h1 | h1)
      · exact .inl (.inr h1)
      · exact .inr h1
      · exact .inl (.inl h1)
  · have : t ++ (L ++ (left ++ [p])) = (t ++ (L ++ left)) ++ [p] := by simp
    rw [this, List.nodup_append]
    refine ⟨hnd.2, by simp, fun a ha b hb => ?_⟩
    rw [List.mem_singleton] at hb; subst hb
    exact fun e => hnd.1 (e ▸ ha)
  · intro x hx
    refine h.bound x ?_
    simp only [List.mem_append, List.mem_cons, List.not_mem_nil, or_false] at hx ⊢
    rcases hx with h1 | h1 | h1 | h1
    · exact .inl (.inr h1)
    · exact .inr (.inl h1)
    · exact .inr (.inr h1)
    · exact .inl (.inl h1)
  · rcases hx with hx | hx
    · exact h.fro x (.inl (List.mem_cons_of_mem _ hx))
    · rcases List.mem_append.1 hx with hx | hx
      · exact h.fro x (.inr hx)
      · rw [List.mem_singleton] at hx; subst hx
        exact h.fro x (.inl (by simp))
  · intro v u hv hw a b hab
    have hab2 : L ++ (left ++ [p]) = (L ++ left) ++ [p] := by simp
    rw [hab2] at hab
    rcases (hmem v).1 hv with hv1 | rfl
    · -- v is older
      have hvp : v ≠ p := fun e => hpL (e ▸ hv1)
      obtain ⟨b', hb'⟩ : ∃ b', b = b' ++ [p] := by
        rcases List.eq_nil_or_concat b with rfl | ⟨b', q, rfl⟩
        · have h1 := congrArg List.getLast? hab
          simp at h1
          exact absurd h1.symm hvp
        · have h1 : (L ++ left) ++ [p] = (a ++ v :: b') ++ [q] := by simpa using hab
          have h2 := (List.append_inj' h1 rfl).2
          injection h2 with h2
          exact ⟨b', by rw [h2]; simp⟩
      subst hb'
      have hab3 : L ++ left = a ++ v :: b' := by
        have : (L ++ left) ++ [p] = (a ++ v :: b') ++ [p] := by simpa using hab
        exact List.append_cancel_right this
      exact h.late v u hv1 hw a b' hab3
    · -- v is the one that is left now
      have hb0 : b = [] ∧ a = L ++ left := by
        rcases List.eq_nil_or_concat b with rfl | ⟨b', q, rfl⟩
        · have : (L ++ left) ++ [v] = a ++ [v] := hab
          exact ⟨rfl, (List.append_cancel_right this).symm⟩
        · exfalso
          have h1 : (L ++ left) ++ [v] = (a ++ v :: b') ++ [q] := by simpa using hab
          have h2 := (List.append_inj' h1 rfl).1
          exact hpL (by rw [h2]; simp)
      obtain ⟨rfl, rfl⟩ := hb0
      by_cases hu : u ∈ L ++ left
      · obtain ⟨y, h1, h2, h3⟩ := hw.leave (S := (· ∈ L ++ left)) hu hpL
        obtain ⟨h4, h5⟩ := h.via u y hu h1 h2
        exact ⟨y, h1, h5, h2.way⟩
      · exact ⟨u, hu, Sim.refl u⟩
  · rcases h.has with h1 | h1 | h1
    · rcases List.mem_cons.1 h1 with rfl | h1
      · exact .inr (.inl (by simp))
      · exact .inl h1
    · exact .inr (.inl (by simp [h1]))
    · exact absurd h1.1 (by simp)

theorem Going.rest (h : Going n adj L s been ed [] left) : Rest n adj been ed (L ++ left) where
  mem x := by simp [h.mem x]
  nodup := by simpa using h.nodup
  bound := by simpa using h.bound
  gone := h.gone
  shut u y hu hy := by
    rcases Classical.em (y ∈ L ++ left) with h1 | h1
    · exact h1
    · exact absurd (h.via u y hu h1 (.one hu hy)).1 (by simp)
  late := h.late
  edle := h.edle

/-- How much is still to be gone. -/
def todo (n : Nat) (adj : Nat → List Nat) (ed : Nat → Nat) : Nat := ((List.range n).map fun x => (adj x).length - ed x).sum

theorem sum_less : ∀ (l : List Nat) (f g : Nat → Nat) (p : Nat), l.Nodup → p ∈ l → (∀ x, x ≠ p → f x = g x) → f p + 1 = g p → (l.map f).sum + 1 = (l.map g).sum
  | [], _, _, _, _, hp, _, _ => by cases hp
  | a :: l, f, g, p, hn, hp, he, h1 => by
    simp only [List.map_cons, List.sum_cons]
    obtain ⟨hn1, hn2⟩ := List.nodup_cons.1 hn
    by_cases ha : a = p
    · subst ha
      have : l.map f = l.map g := List.map_congr_left fun x hx => he x (fun e => hn1 (e ▸ hx))
      rw [this]; omega
    · have := sum_less l f g p hn2 (by rcases List.mem_cons.1 hp with h | h; exact absurd h.symm ha; exact h) he h1
      rw [he a ha]; omega

theorem todo_less (hp : p < n) (h : ed p < (adj p).length) : todo n adj (updE ed p) + 1 = todo n adj ed := by
  refine sum_less _ _ _ p List.nodup_range (List.mem_range.2 hp) (fun x hx => ?_) ?_
  · simp only [updE]; rw [if_neg hx]
  · simp only [updE, if_true]; omega
end
end Go.Proofs.Ytlfgnoicjogfpaa.Cy

namespace Go.Proofs.Ytlfgnoicjogfpaa.Cy

/-- A place is on a circle. -/
def Circ (E : Nat → Nat → Prop) (x : Nat) : Prop := ∃ y, E x y ∧ Way E y x

/-- The edges are between places. -/
def Fit (n : Nat) (adj : Nat → List Nat) : Prop := ∀ a b, EA adj a b → a < n ∧ b < n

theorem Way.bound {n : Nat} {adj : Nat → List Nat} (hf : Fit n adj) {a b : Nat} (h : Way (EA adj) a b) (hb : b < n) : a < n := by
  cases h with
  | here _ => exact hb
  | on h1 _ => exact (hf _ _ h1).1

/-- With each place those that lead to it and to which it leads. -/
def Class (E : Nat → Nat → Prop) (L : List Nat) : Prop := ∀ x ∈ L, ∀ y, Sim E x y → y ∈ L

section
variable {n : Nat} {adj adj' : Nat → List Nat} {been been' : Nat → Bool} {ed ed' : Nat → Nat} {L1 L2 K a b : List Nat} {s : Nat}

theorem turned (ht : ∀ x y, EA adj' x y ↔ EA adj y x) {x y : Nat} : Way (EA adj') x y ↔ Way (EA adj) y x := by
  have : EA adj' = fun x y => EA adj y x := funext fun x => funext fun y => propext (ht x y)
  rw [this]
  exact ⟨Way.unturn, Way.turn⟩

/-- What is told of a place is its knot. -/
theorem knot_iff (hf : Fit n adj) (ht : ∀ x y, EA adj' x y ↔ EA adj y x) (hl : Late (EA adj) L1) (hall : ∀ x, x < n → x ∈ L1) (hs : s < n)
    (hab : L1 = a ++ s :: b) (hb : ∀ x ∈ b, x ∈ L2) (hc : Class (EA adj) L2) (hsn : s ∉ L2) (hg : Going n adj' L2 s been' ed' [] K) : ∀ x, x ∈ K ↔ Sim (EA adj) x s := by
  have hr := hg.rest
  have hsK : s ∈ K := by
    rcases hg.has with h | h | h
    · cases h
    · exact h
    · exact absurd h.2.2 hsn
  intro x
  constructor
  · intro hx
    have hw : Way (EA adj) x s := (turned ht).1 (hg.fro x (.inr hx))
    have hxL : x ∉ L2 := fun e => by
      have := List.nodup_append.1 (show (L2 ++ K).Nodup from by simpa using hg.nodup)
      exact this.2.2 x e x hx rfl
    have hsL1 : s ∈ L1 := hall s hs
    obtain ⟨w, h1, h2⟩ := hl s x hsL1 hw a b hab
    have hxn : x < n := hw.bound hf hs
    have hwn : w < n := h2.1.bound hf hxn
    have hwL := hall w hwn
    rw [hab] at hwL
    rcases List.mem_append.1 hwL with h3 | h3
    · exact absurd h3 h1
    · rcases List.mem_cons.1 h3 with rfl | h3
      · exact h2.symm
      · exact absurd (hc w (hb w h3) x h2) hxL
  · intro hx
    have hw : Way (EA adj') s x := (turned ht).2 hx.1
    have hin : x ∈ L2 ++ K := by
      rcases Classical.em (x ∈ L2 ++ K) with h1 | h1
      · exact h1
      · obtain ⟨y, h2, h3, _⟩ := hw.leave (S := (· ∈ L2 ++ K)) (List.mem_append.2 (.inr hsK)) h1
        exact absurd (via_shut hr.shut (List.mem_append.2 (.inr hsK)) h3) h2
    rcases List.mem_append.1 hin with h1 | h1
    · exact absurd (hc x h1 s hx) hsn
    · exact h1

theorem knot_class (hc : Class (EA adj) L2) (hK : ∀ x, x ∈ K ↔ Sim (EA adj) x s) : Class (EA adj) (L2 ++ K) := fun x hx y hy => by
  rcases List.mem_append.1 hx with h | h
  · exact List.mem_append.2 (.inl (hc x h y hy))
  · exact List.mem_append.2 (.inr ((hK y).2 (hy.symm.trans ((hK x).1 h))))

theorem circ_of_two {E : Nat → Nat → Prop} {x y : Nat} (h : Sim E x y) (hne : x ≠ y) : Circ E x := by
  obtain ⟨h1, h2⟩ := h
  cases h1 with
  | here _ => exact absurd rfl hne
  | on h3 h4 => exact ⟨_, h3, h4.trans h2⟩

/-- Whether a knot counts. -/
def counts (adj : Nat → List Nat) (K : List Nat) : Bool := decide (1 < K.length) || (adj (K.headD 0)).contains (K.headD 0)

theorem counts_iff (hK : ∀ x, x ∈ K ↔ Sim (EA adj) x s) (hn : K.Nodup) : ∀ x ∈ K, counts adj K = true ↔ Circ (EA adj) x := by
  intro x hx
  match hKe : K with
  | [] => cases hx
  | [k] =>
    have hxk : x = k := by simpa using hx
    subst hxk
    have hxs : s = x := by
      have := (hK s).2 (Sim.refl s)
      simpa using this
    subst hxs
    constructor
    · intro h
      have : s ∈ adj s := by simpa [counts] using h
      exact ⟨s, this, .here s⟩
    · rintro ⟨y, h1, h2⟩
      have : y ∈ [s] := (hK y).2 ⟨h2, .one h1⟩
      have : y = s := by simpa using this
      subst this
      have h3 : y ∈ adj y := h1
      simpa [counts] using h3
  | k :: k2 :: K' =>
    have hc : counts adj (k :: k2 :: K') = true := by simp [counts]
    refine ⟨fun _ => ?_, fun _ => hc⟩
    have hkk : k ≠ k2 := by
      have := (List.nodup_cons.1 hn).1
      intro e; subst e; simp at this
    have hsim : ∀ y ∈ k :: k2 :: K', Sim (EA adj) x y := fun y hy => ((hK x).1 hx).trans ((hK y).1 hy).symm
    by_cases hxk : x = k
    · exact circ_of_two (hsim k2 (by simp)) (by rw [hxk]; exact hkk)
    · exact circ_of_two (hsim k (by simp)) hxk
end

/-- The knots that were told, and what was left for it: each of them is one, and they have all behind s in the order. -/
structure Knots (n : Nat) (adj adj' : Nat → List Nat) (been : Nat → Bool) (ed : Nat → Nat) (b L2 on : List Nat) : Prop where
  rest : Rest n adj' been ed L2
  done : ∀ x ∈ b, x ∈ L2
  cls : Class (EA adj) L2
  on_iff : ∀ x, x ∈ on ↔ x ∈ L2 ∧ Circ (EA adj) x
  on_nodup : on.Nodup

section
variable {n : Nat} {adj adj' : Nat → List Nat} {been been' : Nat → Bool} {ed ed' : Nat → Nat} {L1 L2 K a b on : List Nat} {s : Nat}

theorem Knots.start (h : Rest n adj' been ed []) : Knots n adj adj' been ed [] [] [] where
  rest := h
  done x hx := by cases hx
  cls x hx := by cases hx
  on_iff x := by simp
  on_nodup := by simp

theorem Knots.old (h : Knots n adj adj' been ed b L2 on) (hs : s ∈ L2) (hg : Going n adj' L2 s been' ed' [] []) : Knots n adj adj' been' ed' (s :: b) L2 on where
  rest := by simpa using hg.rest
  done x hx := by
    rcases List.mem_cons.1 hx with rfl | hx
    · exact hs
    · exact h.done x hx
  cls := h.cls
  on_iff := h.on_iff
  on_nodup := h.on_nodup

theorem Knots.put (hf : Fit n adj) (ht : ∀ x y, EA adj' x y ↔ EA adj y x) (hl : Late (EA adj) L1) (hall : ∀ x, x < n → x ∈ L1) (hs : s < n) (hab : L1 = a ++ s :: b)
    (h : Knots n adj adj' been ed b L2 on) (hsn : s ∉ L2) (hg : Going n adj' L2 s been' ed' [] K) :
    Knots n adj adj' been' ed' (s :: b) (L2 ++ K) (if counts adj K = true then on ++ K else on) := by
  have hK := knot_iff hf ht hl hall hs hab h.done h.cls hsn hg
  have hnd := List.nodup_append.1 (show (L2 ++ K).Nodup from by simpa using hg.nodup)
  have hcnt := counts_iff hK hnd.2.1
  refine ⟨hg.rest, fun x hx => ?_, knot_class h.cls hK, fun x => ?_, ?_⟩
  · rcases List.mem_cons.1 hx with rfl | hx
    · exact List.mem_append.2 (.inr ((hK x).2 (Sim.refl x)))
    · exact List.mem_append.2 (.inl (h.done x hx))
  · split
    · rename_i hc
      rw [List.mem_append, List.mem_append, h.on_iff]
      constructor
      · rintro (h1 | h1)
        · exact ⟨.inl h1.1, h1.2⟩
        · exact ⟨.inr h1, (hcnt x h1).1 hc⟩
      · rintro ⟨h1 | h1, h2⟩
        · exact .inl ⟨h1, h2⟩
        · exact .inr h1
    · rename_i hc
      rw [List.mem_append, h.on_iff]
      constructor
      · rintro h1
        exact ⟨.inl h1.1, h1.2⟩
      · rintro ⟨h1 | h1, h2⟩
        · exact ⟨h1, h2⟩
        · exact absurd ((hcnt x h1).2 h2) hc
  · split
    · rw [List.nodup_append]
      refine ⟨h.on_nodup, hnd.2.1, fun x hx y hy => ?_⟩
      exact hnd.2.2 x ((h.on_iff x).1 hx).1 y hy
    · exact h.on_nodup

/-- At the end: who is on a circle. -/
theorem Knots.all (hall : ∀ x, x < n → x ∈ L1) (h : Knots n adj adj' been ed L1 L2 on) : on.Nodup ∧ ∀ x, x ∈ on ↔ x < n ∧ Circ (EA adj) x := by
  refine ⟨h.on_nodup, fun x => ?_⟩
  rw [h.on_iff]
  exact ⟨fun h1 => ⟨h.rest.bound x h1.1, h1.2⟩, fun h1 => ⟨h.done x (hall x h1.1), h1.2⟩⟩
end
end Go.Proofs.Ytlfgnoicjogfpaa.Cy
