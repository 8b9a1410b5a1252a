/-
  WHAT THE LAW QueuePlays CARRIES FROM MOVE TO MOVE: the queue, and the document's list, say the same.
-/
import Derived.Test.YtajlbiohaafpnaaQg
namespace Go.Proofs.Ytajlbiohaafpnaa.Qu
open Go.RowKit Go.Maps
open Mem Hp

theorem fore_trans {x y z : It} (h : fore x y = true) (k : fore y z = true) : fore x z = true := by rw [fore_iff] at *; omega
theorem fore_irr {x : It} (h : fore x x = true) : False := by rw [fore_iff] at h; omega

abbrev Sorted (l : List It) : Prop := l.Pairwise fun a b => fore a b = true

theorem ins_sorted (x : It) : ∀ l : List It, Sorted l → (∀ y, y ∈ l → y ≠ x) → Sorted (insL x l)
  | [], _, _ => List.pairwise_singleton _ _
  | y :: l, h, hne => by
    obtain ⟨h1, h2⟩ := List.pairwise_cons.1 h
    show Sorted (if fore x y then x :: y :: l else y :: insL x l)
    cases hf : fore x y with
    | true =>
      refine List.pairwise_cons.2 ⟨fun z hz => ?_, h⟩
      rcases List.mem_cons.1 hz with rfl | hz
      · exact hf
      · exact fore_trans hf (h1 z hz)
    | false =>
      refine List.pairwise_cons.2 ⟨fun z hz => ?_, ins_sorted x l h2 (fun z hz => hne z (List.mem_cons_of_mem _ hz))⟩
      rcases (insL_mem x z l).1 hz with rfl | hz
      · exact fore_of hf (hne y (by simp))
      · exact h1 z hz

theorem strike_id (a : Int) (l : List It) (h : ∀ x, x ∈ l → x.1 ≠ a) : strike a l = l := by
  unfold strike
  rw [List.filter_eq_self]
  intro x hx
  simpa using h x hx
theorem strike_one (a : Int) : ∀ l : List It, l.Pairwise (fun x y => x.1 ≠ y.1) → ∀ x, x ∈ l → x.1 = a → (strike a l).length + 1 = l.length
  | [], _, x, hx, _ => by cases hx
  | y :: l, h, x, hx, ha => by
    obtain ⟨h1, h2⟩ := List.pairwise_cons.1 h
    by_cases hy : y.1 = a
    · have e : strike a (y :: l) = strike a l := by unfold strike; rw [List.filter_cons_of_neg (by simpa using hy)]
      rw [e, strike_id a l (fun z hz e => h1 z hz (hy.trans e.symm))]
      rfl
    · have e : strike a (y :: l) = y :: strike a l := by unfold strike; rw [List.filter_cons_of_pos (by simpa using hy)]
      rcases List.mem_cons.1 hx with rfl | hx
      · exact absurd ha hy
      · rw [e, List.length_cons, strike_one a l h2 x hx ha, List.length_cons]
theorem strike_mem (a : Int) (l : List It) (x : It) : x ∈ strike a l ↔ x ∈ l ∧ x.1 ≠ a := by
  unfold strike
  rw [List.mem_filter]
  simp
theorem strike_sorted (a : Int) (l : List It) (h : Sorted l) : Sorted (strike a l) := h.filter _

structure Play (B : Nat) (w w' : World) (q : Nat) (U : Nat → Prop) (n : Nat) (S : It → Prop) (v : Value) (l : List It) : Prop where
  own : Own B w w' q U n S
  lst : Lst w' (fun g => ¬ U g ∧ g ≠ q) v l
  sorted : Sorted l
  mem : ∀ x, S x ↔ x ∈ l
  len : l.length = n

section
variable {B : Nat} {w w' w1 w2 : World} {q : Nat} {U : Nat → Prop} {n : Nat} {S : It → Prop} {v v' : Value} {l : List It}

theorem Play.below (h : Play B w w' q U n S v l) (hb : Below w'.heap.size w' w1) : Play B w w1 q U n S v l :=
  ⟨⟨h.own.qs.below hb, h.own.ge, h.own.bel.trans (hb.mono h.own.size), Nat.le_trans h.own.size hb.size⟩, h.lst.below hb, h.sorted, h.mem, h.len⟩

theorem Play.apart (h : Play B w w' q U n S v l) : l.Pairwise (fun x y => x.1 ≠ y.1) :=
  h.sorted.imp_of_mem fun {a b} ha hb hf e => fore_irr (h.own.qs.inj ((h.mem a).2 ha) ((h.mem b).2 hb) e ▸ hf)

/-- The place of an id. -/
theorem Play.place (h : Play B w w' q U n S v l) {a : Int} (hy : ∃ y, S y ∧ y.1 = a) : ∃ (k : Nat) (hk : k < l.length), l[k].1 = a ∧ ∀ j (hj : j < l.length), j < k → l[j].1 ≠ a := by
  obtain ⟨y, hS, hy⟩ := hy
  obtain ⟨k, hk, e⟩ := List.getElem_of_mem ((h.mem y).1 hS)
  refine ⟨k, hk, by rw [e]; exact hy, fun j hj hjk e' => ?_⟩
  exact List.pairwise_iff_getElem.1 h.apart j k hj hk hjk (by rw [e', e]; exact hy.symm)

theorem Play.turned (h : Play B w w' q U n S v l) (ht : Tn U w' w1) : Lst w1 (fun g => ¬ U g ∧ g ≠ q) v l :=
  h.lst.keep fun g hF hg => ⟨hF, ht.block g hg hF.1⟩

theorem Play.grown (h : Play B w w' q U n S v l) (ht : Tn U w' w1) : Lst w1 (fun g => ¬ Gr U w' w1 g ∧ g ≠ q) v l :=
  h.lst.keep fun g hF hg => ⟨⟨fun hx => by
    rcases hx with hx | hx
    · exact hF.1 hx
    · omega, hF.2⟩, ht.block g hg hF.1⟩

/-- A new list, behind all that the queue has. -/
theorem Mine.far {w1 w2 : World} {q : Nat} {U : Nat → Prop} {n : Nat} {S : It → Prop} {v : Value} {l : List It} (h : Mine w1.heap.size w1 w2 v l) (hq : Qs w1 q U n S) : Lst w2 (fun g => ¬ U g ∧ g ≠ q) v l := by
  have hl := hq.lt
  exact h.lst.more fun g hg => ⟨fun hu => by have := hl.2 g hu; omega, by omega⟩

theorem play_put (h : Play B w w' q U n S v l) {x : It} (hq : Qs w1 q (Gr U w' w1) (n + 1) (fun y => S y ∨ y = x)) (ht : Tn U w' w1) (hno : ∀ y, S y → y.1 ≠ x.1) (hm : Mine w1.heap.size w1 w2 v' (insL x l)) : Play B w w2 q (Gr U w' w1) (n + 1) (fun y => S y ∨ y = x) v' (insL x l) := by
  have ho := h.own.grow hq ht
  refine ⟨⟨ho.qs.below hm.2.1, ho.ge, ho.bel.trans (hm.2.1.mono ho.size), Nat.le_trans ho.size hm.2.1.size⟩, hm.far hq, ins_sorted x l h.sorted (fun y hy e => hno y ((h.mem y).2 hy) (by rw [e])), fun y => ?_, by rw [insL_len, h.len]⟩
  show (S y ∨ y = x) ↔ _
  rw [insL_mem, h.mem]
  exact Or.comm

theorem play_drop (h : Play B w w' q U n S v l) {a : Int} {m : Nat} (hq : Qs w1 q U m (fun y => S y ∧ y.1 ≠ a)) (ht : Tn U w' w1) (hl : (strike a l).length = m) (hm : Mine w1.heap.size w1 w2 v' (strike a l)) : Play B w w2 q U m (fun y => S y ∧ y.1 ≠ a) v' (strike a l) := by
  have ho := h.own.turn hq ht
  refine ⟨⟨ho.qs.below hm.2.1, ho.ge, ho.bel.trans (hm.2.1.mono ho.size), Nat.le_trans ho.size hm.2.1.size⟩, hm.far hq, strike_sorted a l h.sorted, fun y => ?_, hl⟩
  show (S y ∧ y.1 ≠ a) ↔ _
  rw [strike_mem, h.mem]

theorem play_stay (h : Play B w w' q U n S v l) {a : Int} (hno : ∀ x, x ∈ l → x.1 ≠ a) (hm : Mine w'.heap.size w' w2 v' (strike a l)) : Play B w w2 q U n S v' l := by
  rw [strike_id a l hno] at hm
  have ho := h.own
  exact ⟨⟨ho.qs.below hm.2.1, ho.ge, ho.bel.trans (hm.2.1.mono ho.size), Nat.le_trans ho.size hm.2.1.size⟩, hm.far ho.qs, h.sorted, h.mem, h.len⟩

theorem play_head {x : It} {t : List It} (h : Play B w w' q U n S v l) (hl : l = x :: t) {y : It} (hy : S y) (hle : ∀ z, S z → le y z) : y = x := by
  subst hl
  refine le_antisymm (hle x ((h.mem x).2 (by simp))) ?_
  rcases List.mem_cons.1 ((h.mem y).1 hy) with e | e
  · rw [e]; exact le_refl x
  · exact le_of ((List.pairwise_cons.1 h.sorted).1 y e)

theorem play_take {x : It} {t : List It} (h : Play B w w' q U (n + 1) S v (x :: t)) (hq : Qs w1 q U n (fun y => S y ∧ y ≠ x)) (ht : Tn U w' w1) (hl : Lst w1 (fun g => ¬ U g ∧ g ≠ q) v' t) : Play B w w1 q U n (fun y => S y ∧ y ≠ x) v' t := by
  have hs := List.pairwise_cons.1 h.sorted
  refine ⟨h.own.turn hq ht, hl, hs.2, fun y => ?_, by have := h.len; simp at this; omega⟩
  show (S y ∧ y ≠ x) ↔ _
  rw [h.mem, List.mem_cons]
  constructor
  · rintro ⟨e | e, hne⟩
    · exact absurd e hne
    · exact e
  · intro hy
    exact ⟨.inr hy, fun e => fore_irr (e ▸ hs.1 y hy)⟩
end
end Go.Proofs.Ytajlbiohaafpnaa.Qu
