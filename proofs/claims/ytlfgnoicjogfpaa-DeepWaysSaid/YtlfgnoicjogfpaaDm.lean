/-
  MATHEMATICS of layer 12, of no program: how deep ways go; a way on which they do.
-/
import Derived.Test.YtlfgnoicjogfpaaCb
namespace Go.Proofs.Ytlfgnoicjogfpaa.Dp


/-- The greatest of what edges with those ends cost; 0: there is none. -/
def mx (st : Int) (d : Nat → Int) : List Nat → Int
  | [] => 0
  | e :: l => max (st + d e) (mx st d l)
theorem mx_nonneg (st : Int) (d : Nat → Int) : ∀ l, 0 ≤ mx st d l
  | [] => Int.le_refl 0
  | e :: l => by have := mx_nonneg st d l; unfold mx; omega
theorem mx_ge {st : Int} {d : Nat → Int} : ∀ {l : List Nat} {e : Nat}, e ∈ l → st + d e ≤ mx st d l
  | [], e, h => by cases h
  | a :: l, e, h => by
    unfold mx
    rcases List.mem_cons.1 h with rfl | h
    · omega
    · have := mx_ge (st := st) (d := d) h; omega
theorem mx_le {st : Int} {d : Nat → Int} {b : Int} (hb : 0 ≤ b) : ∀ {l : List Nat}, (∀ e ∈ l, st + d e ≤ b) → mx st d l ≤ b
  | [], _ => hb
  | a :: l, h => by
    unfold mx
    have h1 := h a (List.mem_cons_self)
    have h2 := mx_le hb (l := l) fun e he => h e (List.mem_cons_of_mem _ he)
    omega
theorem mx_congr {st : Int} {d d' : Nat → Int} : ∀ {l : List Nat}, (∀ e ∈ l, d e = d' e) → mx st d l = mx st d' l
  | [], _ => rfl
  | a :: l, h => by
    unfold mx
    rw [h a (List.mem_cons_self), mx_congr fun e he => h e (List.mem_cons_of_mem _ he)]
theorem mx_mono {st st' : Int} {d d' : Nat → Int} (hs : st ≤ st') {l : List Nat} (h : ∀ e ∈ l, d e ≤ d' e) : mx st d l ≤ mx st' d' l :=
  mx_le (mx_nonneg _ _ _) fun e he => by
    have h1 := h e he
    have h2 := mx_ge (st := st') (d := d') he
    omega
theorem mx_set {st : Int} {d : Nat → Int} {l l' : List Nat} (h : ∀ e, e ∈ l ↔ e ∈ l') : mx st d l = mx st d l' :=
  Int.le_antisymm (mx_le (mx_nonneg _ _ _) fun e he => mx_ge ((h e).1 he)) (mx_le (mx_nonneg _ _ _) fun e he => mx_ge ((h e).2 he))

def cap : Int := 1099511627776
/-- A round: how deep a place goes by the edges' ends. -/
def rnd (mem : Nat → Bool) (adj : Nat → List Nat) (ow : Nat → Int) (re st : Int) (d : Nat → Int) (a : Nat) : Int := if mem a = true then min (mx st d (adj a) + ow a) cap else re
/-- So many rounds, from nothing. -/
def rnds (mem : Nat → Bool) (adj : Nat → List Nat) (ow : Nat → Int) (re st : Int) : Nat → Nat → Int
  | 0 => fun _ => 0
  | k + 1 => rnd mem adj ow re st (rnds mem adj ow re st k)
theorem rnd_congr {mem : Nat → Bool} {adj : Nat → List Nat} {ow : Nat → Int} {re st : Int} {d d' : Nat → Int} {a : Nat} (h : ∀ e ∈ adj a, d e = d' e) : rnd mem adj ow re st d a = rnd mem adj ow re st d' a := by
  unfold rnd
  rw [mx_congr h]

/-- How deep the places go, once those of the list have been gone through, the last one first. -/
def deeps (mem : Nat → Bool) (adj : Nat → List Nat) (ow : Nat → Int) (re st : Int) : List Nat → Nat → Int
  | [] => fun _ => re
  | p :: l => fun a => if a = p then rnd mem adj ow re st (deeps mem adj ow re st l) p else deeps mem adj ow re st l a
theorem deeps_out {mem : Nat → Bool} {adj : Nat → List Nat} {ow : Nat → Int} {re st : Int} : ∀ {l : List Nat} {a : Nat}, a ∉ l → deeps mem adj ow re st l a = re
  | [], _, _ => rfl
  | p :: l, a, h => by
    have h1 : a ≠ p := fun e => h (e ▸ List.mem_cons_self)
    show (if a = p then _ else _) = _
    rw [if_neg h1, deeps_out fun e => h (List.mem_cons_of_mem _ e)]

/-- An order of the members: of each those members to which its edges lead come behind it. -/
structure Orde (mem : Nat → Bool) (adj : Nat → List Nat) (l : List Nat) : Prop where
  nodup : l.Nodup
  isin : ∀ x ∈ l, mem x = true
  on : ∀ a p b, l = a ++ p :: b → ∀ e ∈ adj p, mem e = true → e ∈ b

theorem Orde.tail {mem : Nat → Bool} {adj : Nat → List Nat} {p : Nat} {l : List Nat} (h : Orde mem adj (p :: l)) : Orde mem adj l where
  nodup := (List.nodup_cons.1 h.nodup).2
  isin x hx := h.isin x (List.mem_cons_of_mem _ hx)
  on a q b hab := h.on (p :: a) q b (by rw [hab]; rfl)

theorem deeps_right {mem : Nat → Bool} {adj : Nat → List Nat} {ow : Nat → Int} {re st : Int} : ∀ {l : List Nat}, Orde mem adj l → ∀ x ∈ l, deeps mem adj ow re st l x = rnd mem adj ow re st (deeps mem adj ow re st l) x
  | [], _, x, hx => by cases hx
  | p :: l, h, x, hx => by
    have hpl : p ∉ l := (List.nodup_cons.1 h.nodup).1
    have key : ∀ y ∈ p :: l, ∀ e ∈ adj y, e ≠ p := fun y hy e he hep => by
      subst hep
      have hm := h.isin e (List.mem_cons_self)
      rcases List.mem_cons.1 hy with rfl | hy
      · have := h.on [] y l rfl y he hm
        exact hpl this
      · obtain ⟨a, b, rfl⟩ := List.append_of_mem hy
        have := h.on (e :: a) y b rfl e he hm
        exact hpl (by simp [this])
    have hc : rnd mem adj ow re st (deeps mem adj ow re st (p :: l)) x = rnd mem adj ow re st (deeps mem adj ow re st l) x := rnd_congr fun e he => by
      show (if e = p then _ else _) = _
      rw [if_neg (key x hx e he)]
    rw [hc]
    by_cases hxp : x = p
    · subst hxp
      show (if x = x then _ else _) = _
      rw [if_pos rfl]
    · show (if x = p then _ else _) = _
      rw [if_neg hxp]
      rcases List.mem_cons.1 hx with h1 | h1
      · exact absurd h1 hxp
      · exact deeps_right h.tail x h1

/-- What is right of each place comes of enough rounds. -/
theorem rnds_right {mem : Nat → Bool} {adj : Nat → List Nat} {ow : Nat → Int} {re st : Int} {D : Nat → Int} : ∀ {l : List Nat}, Orde mem adj l → (∀ x, mem x = false → D x = re) → (∀ x ∈ l, D x = rnd mem adj ow re st D x) → ∀ x ∈ l, ∀ k, l.length + 1 ≤ k → rnds mem adj ow re st k x = D x
  | [], _, _, _, x, hx, _, _ => by cases hx
  | p :: l, h, hout, hD, x, hx, k, hk => by
    have ih : ∀ x ∈ l, ∀ k, l.length + 1 ≤ k → rnds mem adj ow re st k x = D x := rnds_right h.tail hout fun x hx => hD x (List.mem_cons_of_mem _ hx)
    rw [List.length_cons] at hk
    rcases List.mem_cons.1 hx with rfl | hx
    · obtain ⟨k, rfl⟩ : ∃ j, k = j + 1 := ⟨k - 1, by omega⟩
      show rnd mem adj ow re st (rnds mem adj ow re st k) x = _
      rw [hD x (List.mem_cons_self)]
      refine rnd_congr fun e he => ?_
      cases hm : mem e with
      | true => exact ih e (h.on [] x l rfl e he hm) k (by omega)
      | false =>
        rw [hout e hm]
        obtain ⟨k, rfl⟩ : ∃ j, k = j + 1 := ⟨k - 1, by omega⟩
        show rnd mem adj ow re st (rnds mem adj ow re st k) e = _
        unfold rnd
        rw [hm]; rfl
    · exact ih x hx k (by omega)

/-- The rounds' answer is the order's. -/
theorem rnds_deeps {n : Nat} {mem : Nat → Bool} {adj : Nat → List Nat} {ow : Nat → Int} {re st : Int} {l : List Nat} (h : Orde mem adj l) (hm : ∀ x, x < n → mem x = true → x ∈ l) (hn : l.length ≤ n) (x : Nat) (hx : x < n) : rnds mem adj ow re st (n + 1) x = deeps mem adj ow re st l x := by
  cases hmx : mem x with
  | true => exact rnds_right h (fun y hy => deeps_out fun e => by have := h.isin y e; rw [hy] at this; cases this) (deeps_right h) x (hm x hx hmx) _ (by omega)
  | false =>
    rw [deeps_out fun e => by have := h.isin x e; rw [hmx] at this; cases this]
    show rnd mem adj ow re st (rnds mem adj ow re st n) x = _
    unfold rnd
    rw [hmx]; rfl

/-- The first of the ends that goes deepest. -/
def best (d : Nat → Int) (w : Nat) : List Nat → Nat
  | [] => w
  | e :: l => best d (if d w < d e then e else w) l
theorem best_mem (d : Nat → Int) : ∀ (l : List Nat) (w : Nat), best d w l = w ∨ best d w l ∈ l
  | [], _ => .inl rfl
  | e :: l, w => by
    unfold best
    rcases best_mem d l (if d w < d e then e else w) with h | h
    · rw [h]
      split
      · exact .inr (List.mem_cons_self)
      · exact .inl rfl
    · exact .inr (List.mem_cons_of_mem _ h)
theorem best_ge (d : Nat → Int) : ∀ (l : List Nat) (w : Nat), d w ≤ d (best d w l) ∧ ∀ e ∈ l, d e ≤ d (best d w l)
  | [], _ => ⟨Int.le_refl _, fun e h => by cases h⟩
  | a :: l, w => by
    unfold best
    have hw : d w ≤ d (if d w < d a then a else w) ∧ d a ≤ d (if d w < d a then a else w) := by split <;> omega
    generalize (if d w < d a then a else w) = x at hw ⊢
    obtain ⟨h1, h2⟩ := best_ge d l x
    refine ⟨by omega, fun e he => ?_⟩
    rcases List.mem_cons.1 he with rfl | he
    · omega
    · exact h2 e he
theorem best_snoc (d : Nat → Int) (e : Nat) : ∀ (l : List Nat) (w : Nat), best d w (l ++ [e]) = if d (best d w l) < d e then e else best d w l
  | [], w => rfl
  | a :: l, w => by
    show best d _ (l ++ [e]) = _
    rw [best_snoc d e l]
    rfl
def bestO (d : Nat → Int) : List Nat → Option Nat
  | [] => none
  | e :: l => some (best d e l)
theorem bestO_snoc (d : Nat → Int) (e : Nat) (l : List Nat) : bestO d (l ++ [e]) = match bestO d l with | none => some e | some w => some (if d w < d e then e else w) := by
  cases l with
  | nil => rfl
  | cons a l => show some (best d a (l ++ [e])) = _; rw [best_snoc]; rfl
theorem bestO_mem {d : Nat → Int} {l : List Nat} {w : Nat} (h : bestO d l = some w) : w ∈ l ∧ ∀ e ∈ l, d e ≤ d w := by
  cases l with
  | nil => cases h
  | cons a l =>
    have h : best d a l = w := by injection h
    subst h
    obtain ⟨h1, h2⟩ := best_ge d l a
    refine ⟨?_, fun e he => ?_⟩
    · rcases best_mem d l a with h | h
      · rw [h]; exact List.mem_cons_self
      · exact List.mem_cons_of_mem _ h
    · rcases List.mem_cons.1 he with rfl | he
      · exact h1
      · exact h2 e he
theorem bestO_none {d : Nat → Int} {l : List Nat} : bestO d l = none ↔ l = [] := by cases l <;> simp [bestO]
theorem mx_best {st : Int} {d : Nat → Int} {l : List Nat} {w : Nat} (h : bestO d l = some w) (h0 : 0 ≤ st + d w) : mx st d l = st + d w := by
  obtain ⟨h1, h2⟩ := bestO_mem h
  exact Int.le_antisymm (mx_le h0 fun e he => by have := h2 e he; omega) (mx_ge h1)

/-- A way on which a place goes as deep as it does, of so many steps at most. -/
def wayL (mem : Nat → Bool) (adj : Nat → List Nat) (d : Nat → Int) : Nat → Nat → List Nat
  | 0, _ => []
  | f + 1, a => if mem a = true then (match bestO d (adj a) with | none => [] | some e => e :: wayL mem adj d f e) else []

/-- The costs of a way, behind its first place. -/
def costW (mem : Nat → Bool) (ow : Nat → Int) (re : Int) (a : Nat) : Int := if mem a = true then ow a else re
end Go.Proofs.Ytlfgnoicjogfpaa.Dp
