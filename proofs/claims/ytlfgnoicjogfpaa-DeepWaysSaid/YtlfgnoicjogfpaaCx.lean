/-
  MATHEMATICS of layer 11: where there is no order, somebody is on a circle. MATHEMATICS of layer 11: there is an order just if nobody is on a circle, and back just then, too. MATHEMATICS of layer 11: an order asks of places alone; two rising lists of the same places are the same.
-/
import Derived.Test.YtlfgnoicjogfpaaCt
import Derived.Test.YtlfgnoicjogfpaaCs
import Derived.Test.YtlfgnoicjogfpaaCm
namespace Go.Proofs.Ytlfgnoicjogfpaa.By
open Go.RowKit
open Mem Gm Rf Hp Qu

/-- The edges between those that wait. -/
def EdT (n : Nat) (R : Nat → Nat → Bool) (T : Nat → Bool) (x y : Nat) : Prop := x < n ∧ y < n ∧ T x = true ∧ T y = true ∧ R x y = true

theorem pick_none {n : Nat} {R : Nat → Nat → Bool} {T : Nat → Bool} (h : pick n R T = none) {p : Nat} (hp : p < n) (hT : T p = true) : ∃ a, a < n ∧ T a = true ∧ R a p = true := by
  unfold pick at h
  rw [List.find?_eq_none] at h
  have h1 := h p (List.mem_range.2 hp)
  rw [hT, Bool.true_and, List.all_eq_true] at h1
  by_cases h2 : ∃ a, a < n ∧ T a = true ∧ R a p = true
  · exact h2
  · refine absurd (fun a ha => ?_) h1
    cases h3 : T a with
    | false => rfl
    | true =>
      cases h4 : R a p with
      | false => rfl
      | true => exact absurd ⟨a, List.mem_range.1 ha, h3, h4⟩ h2

/-- Going back from one to one ahead of it. -/
def backs (f : Nat → Nat) (p : Nat) : Nat → Nat
  | 0 => p
  | k + 1 => f (backs f p k)

theorem circ_of_none {n : Nat} {R : Nat → Nat → Bool} {T : Nat → Bool} (h : pick n R T = none) {p : Nat} (hp : p < n) (hT : T p = true) : ∃ x, Cy.Circ (EdT n R T) x := by
  have hex : ∀ x, ∃ a, x < n → T x = true → a < n ∧ T a = true ∧ R a x = true := fun x => by
    by_cases hx : x < n ∧ T x = true
    · obtain ⟨a, ha⟩ := pick_none h hx.1 hx.2
      exact ⟨a, fun _ _ => ha⟩
    · exact ⟨0, fun h1 h2 => absurd ⟨h1, h2⟩ hx⟩
  obtain ⟨f, hf⟩ := Classical.axiomOfChoice hex
  have hb : ∀ k, backs f p k < n ∧ T (backs f p k) = true := fun k => by
    induction k with
    | zero => exact ⟨hp, hT⟩
    | succ k ih => exact ⟨(hf _ ih.1 ih.2).1, (hf _ ih.1 ih.2).2.1⟩
  have he : ∀ k, EdT n R T (backs f p (k + 1)) (backs f p k) := fun k => ⟨(hb _).1, (hb _).1, (hb _).2, (hb _).2, (hf _ (hb k).1 (hb k).2).2.2⟩
  have hw : ∀ i d, Cy.Way (EdT n R T) (backs f p (i + d)) (backs f p i) := fun i d => by
    induction d with
    | zero => exact .here _
    | succ d ih => exact .on (he (i + d)) ih
  have hdup : ∃ i j, i < j ∧ backs f p i = backs f p j := by
    refine Classical.byContradiction fun hno => ?_
    have hnd : ((List.range (n + 1)).map (backs f p)).Nodup := by
      unfold List.Nodup
      rw [List.pairwise_map]
      exact List.pairwise_lt_range.imp fun {a b} hab e => hno ⟨a, b, hab, e⟩
    have := nodup_len n _ hnd fun x hx => by
      obtain ⟨k, _, rfl⟩ := List.mem_map.1 hx
      exact (hb k).1
    simp at this
    omega
  obtain ⟨i, j, hij, e⟩ := hdup
  obtain ⟨d, rfl⟩ : ∃ d, j = i + d + 1 := ⟨j - i - 1, by omega⟩
  refine ⟨backs f p (i + d + 1), backs f p (i + d), he _, ?_⟩
  rw [← e]
  exact hw i d

theorem Circ.mono {E F : Nat → Nat → Prop} (h : ∀ a b, E a b → F a b) {x : Nat} (hc : Cy.Circ E x) : Cy.Circ F x := by
  obtain ⟨y, h1, h2⟩ := hc
  exact ⟨y, h _ _ h1, h2.mono h⟩

/-- Where there is none, somebody is on a circle. -/
theorem ordL_none {n : Nat} {R : Nat → Nat → Bool} : ∀ (f : Nat) (T : Nat → Bool), many n T ≤ f → ordL n R f T = none → ∃ x, Cy.Circ (EdT n R T) x
  | 0, T, hm, h => by
    rw [ordL, if_pos (many_zero.1 (by omega))] at h
    cases h
  | f + 1, T, hm, h => by
    rw [ordL] at h
    split at h
    · cases h
    · rename_i hall
      cases hp : pick n R T with
      | none =>
        have hex : ∃ p, p < n ∧ T p = true := by
          refine Classical.byContradiction fun hno => hall ?_
          rw [List.all_eq_true]
          intro p hpm
          cases hT : T p with
          | false => rfl
          | true => exact absurd ⟨p, List.mem_range.1 hpm, hT⟩ hno
        obtain ⟨p, h1, h2⟩ := hex
        exact circ_of_none hp h1 h2
      | some p =>
        rw [hp] at h
        obtain ⟨hpn, hT, _⟩ := pick_some hp
        have h1 : ordL n R f (minus T p) = none := by
          cases e : ordL n R f (minus T p) with
          | none => rfl
          | some l => dsimp only at h; rw [e] at h; cases h
        have hmm := many_minus hpn hT
        obtain ⟨x, hx⟩ := ordL_none f (minus T p) (by omega) h1
        refine ⟨x, Circ.mono (fun a b hab => ?_) hx⟩
        obtain ⟨h2, h3, h4, h5, h6⟩ := hab
        unfold minus at h4 h5
        rw [Bool.and_eq_true] at h4 h5
        exact ⟨h2, h3, h4.1, h5.1, h6⟩
end Go.Proofs.Ytlfgnoicjogfpaa.By

namespace Go.Proofs.Ytlfgnoicjogfpaa.By
open Go.RowKit
open Mem Gm Rf

theorem EM_iff {g : List (List Int)} {ins : List Bool} {x y : Nat} : EM g ins x y ↔ EdT g.length (RM g ins) (memV ins) x y := by
  unfold EM EdT RM
  rw [Bool.and_eq_true, Bool.and_eq_true]
  exact ⟨fun h => ⟨h.1, h.2.1, h.2.2.2.1, h.2.2.2.2, h.2.2⟩, fun h => ⟨h.1, h.2.1, h.2.2.2.2⟩⟩

theorem many_le (n : Nat) (T : Nat → Bool) : many n T ≤ n := by
  unfold many
  exact Nat.le_trans (List.length_filter_le _ _) (by simp)

/-- There is no order just if somebody is on a circle. -/
theorem ordV_none (g : List (List Int)) (ins : List Bool) : ordV g ins = none ↔ ∃ x, Cy.Circ (EM g ins) x := by
  constructor
  · intro h
    obtain ⟨x, hx⟩ := ordL_none g.length (memV ins) (many_le _ _) h
    exact ⟨x, Circ.mono (fun a b h => EM_iff.2 h) hx⟩
  · rintro ⟨x, hx⟩
    cases h : ordV g ins with
    | none => rfl
    | some l =>
      have ho := ordL_some g.length (memV ins) l h
      refine absurd hx (ho.no_circ (fun a b hab => ?_) x)
      have h1 := EM_iff.1 hab
      exact ⟨(ho.mem a).2 ⟨h1.1, h1.2.2.1⟩, (ho.mem b).2 ⟨h1.2.1, h1.2.2.2.1⟩, h1.2.2.2.2⟩

theorem EM_turn {g : List (List Int)} {ins : List Bool} {x y : Nat} : EM (turn (innG g ins)) ins x y ↔ EM g ins y x := by
  have hl : (turn (innG g ins)).length = g.length := by rw [turn_inn, gr_length]
  unfold EM
  rw [hl]
  constructor
  · rintro ⟨h1, h2, h3⟩
    unfold RM at h3
    rw [Bool.and_eq_true, turn_inn, gr_E] at h3
    exact ⟨h2, h1, h3.1.2.2⟩
  · rintro ⟨h1, h2, h3⟩
    refine ⟨h2, h1, ?_⟩
    have h4 := h3
    unfold RM at h4
    rw [Bool.and_eq_true, Bool.and_eq_true] at h4
    unfold RM
    rw [Bool.and_eq_true, Bool.and_eq_true, turn_inn, gr_E]
    exact ⟨⟨h2, h1, h3⟩, h4.2.2, h4.2.1⟩

theorem circ_turn {E : Nat → Nat → Prop} {x : Nat} (h : Cy.Circ E x) : Cy.Circ (fun a b => E b a) x := by
  obtain ⟨y, h1, h2⟩ := h
  have hw : Cy.Way E x x := .on h1 h2
  cases h2 with
  | here _ => exact ⟨x, h1, .here x⟩
  | on h3 h4 =>
    -- the last edge of the way ahead of x
    have key : ∀ {a b : Nat}, Cy.Way E a b → ∀ z, E z a → ∃ u, E u b ∧ Cy.Way E z u := fun {a b} hw => by
      induction hw with
      | here a => exact fun z hz => ⟨z, hz, .here z⟩
      | on h5 _ ih =>
        intro z hz
        obtain ⟨u, h6, h7⟩ := ih _ h5
        exact ⟨u, h6, .on hz h7⟩
    obtain ⟨u, h6, h7⟩ := key (.on h3 h4) x h1
    exact ⟨u, h6, h7.turn⟩

/-- Back there is no order just then. -/
theorem backV_none (g : List (List Int)) (ins : List Bool) : backV g ins = none ↔ ∃ x, Cy.Circ (EM g ins) x := by
  unfold backV
  rw [ordV_none]
  constructor
  · rintro ⟨x, hx⟩
    exact ⟨x, Circ.mono (fun a b h => EM_turn.1 h) (circ_turn hx)⟩
  · rintro ⟨x, hx⟩
    exact ⟨x, Circ.mono (fun a b h => EM_turn.2 h) (circ_turn hx)⟩

/-- What the order is: each member once, every edge leads on. -/
theorem ordV_some {g : List (List Int)} {ins : List Bool} {l : List Nat} (h : ordV g ins = some l) : Ordered g.length (RM g ins) (memV ins) l := ordL_some _ _ _ h
end Go.Proofs.Ytlfgnoicjogfpaa.By

namespace Go.Proofs.Ytlfgnoicjogfpaa.By
open Go.RowKit
open Mem Gm Rf

theorem find_congr {p q : Nat → Bool} : ∀ {l : List Nat}, (∀ x ∈ l, p x = q x) → l.find? p = l.find? q
  | [], _ => rfl
  | a :: l, h => by
    have h1 := h a (List.mem_cons_self)
    have ih := find_congr (l := l) fun x hx => h x (List.mem_cons_of_mem _ hx)
    rw [List.find?_cons, List.find?_cons, h1, ih]
theorem all_congr {p q : Nat → Bool} : ∀ {l : List Nat}, (∀ x ∈ l, p x = q x) → l.all p = l.all q
  | [], _ => rfl
  | a :: l, h => by
    rw [List.all_cons, List.all_cons, h a (List.mem_cons_self), all_congr fun x hx => h x (List.mem_cons_of_mem _ hx)]

theorem pick_congr {n : Nat} {R R' : Nat → Nat → Bool} {T T' : Nat → Bool} (hR : ∀ a b, a < n → b < n → R a b = R' a b) (hT : ∀ a, a < n → T a = T' a) : pick n R T = pick n R' T' := by
  unfold pick
  refine find_congr fun x hx => ?_
  have hxn := List.mem_range.1 hx
  rw [hT x hxn]
  congr 1
  refine all_congr fun a ha => ?_
  have han := List.mem_range.1 ha
  rw [hT a han, hR a x han hxn]

/-- An order asks of places alone. -/
theorem ordL_congr {n : Nat} {R R' : Nat → Nat → Bool} (hR : ∀ a b, a < n → b < n → R a b = R' a b) : ∀ (f : Nat) {T T' : Nat → Bool}, (∀ a, a < n → T a = T' a) → ordL n R f T = ordL n R' f T'
  | 0, T, T', hT => by
    rw [ordL, ordL, all_congr fun p hp => by rw [hT p (List.mem_range.1 hp)]]
  | f + 1, T, T', hT => by
    rw [ordL, ordL, all_congr (p := fun p => !T p) (q := fun p => !T' p) fun p hp => by rw [hT p (List.mem_range.1 hp)], pick_congr hR hT]
    congr 1
    cases pick n R' T' with
    | none => rfl
    | some p =>
      simp only
      rw [ordL_congr hR f (T := minus T p) (T' := minus T' p) fun a ha => by unfold minus; rw [hT a ha]]

/-- Two rising lists of the same places are the same. -/
theorem risen_eq : ∀ {l l' : List Nat}, l.Pairwise (· < ·) → l'.Pairwise (· < ·) → (∀ x, x ∈ l ↔ x ∈ l') → l = l'
  | [], [], _, _, _ => rfl
  | [], b :: t, _, _, h => by
    have := (h b).2 (List.mem_cons_self)
    cases this
  | a :: t, [], _, _, h => by
    have := (h a).1 (List.mem_cons_self)
    cases this
  | a :: t, b :: t', h1, h2, h => by
    obtain ⟨h3, h4⟩ := List.pairwise_cons.1 h1
    obtain ⟨h5, h6⟩ := List.pairwise_cons.1 h2
    have hab : a = b := by
      rcases List.mem_cons.1 ((h a).1 (List.mem_cons_self)) with e | e
      · exact e
      · rcases List.mem_cons.1 ((h b).2 (List.mem_cons_self)) with e2 | e2
        · exact e2.symm
        · have := h5 a e; have := h3 b e2; omega
    subst hab
    congr 1
    refine risen_eq h4 h6 fun x => ?_
    constructor
    · intro hx
      have := h3 x hx
      rcases List.mem_cons.1 ((h x).1 (List.mem_cons_of_mem _ hx)) with e | e
      · omega
      · exact e
    · intro hx
      have := h5 x hx
      rcases List.mem_cons.1 ((h x).2 (List.mem_cons_of_mem _ hx)) with e | e
      · omega
      · exact e

/-- The document's order is the program's. -/
theorem rord_same (g : List (List Int)) (ins : List Bool) : ordL g.length (E (witG g ins)) g.length (fun a => rmemV g.length ins (a : Int)) = ordV g ins := by
  unfold ordV
  refine ordL_congr (fun a b ha hb => ?_) _ fun a ha => rmemV_nat ha
  rw [Bool.eq_iff_iff, witG_E]
  exact ⟨fun h => h.2.2, fun h => ⟨ha, hb, h⟩⟩
end Go.Proofs.Ytlfgnoicjogfpaa.By
