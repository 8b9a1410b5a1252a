/-
  GRAPHS, in plain mathematics: what there is to say of a way, by places in it.
-/
import Derived.Test.YtfgnlemoodfgoaaGx
namespace Go.Proofs.Ytfgnlemoodfgoaa.By
open Go.RowKit
open Mem Gm Rf

theorem walk_step {g : List (List Int)} {S : Nat → Prop} {l : List Nat} (h : Walk g S l) : ∀ i u v, l[i]? = some v → l[i + 1]? = some u → E g u v = true := by
  induction h with
  | one a _ _ => intro i u v _ h2; simp at h2
  | on p q t _ he ih =>
    intro i u v h1 h2
    cases i with
    | zero =>
      simp at h1 h2
      subst h1 h2; exact he
    | succ i =>
      rw [List.getElem?_cons_succ] at h1 h2
      exact ih i u v h1 h2

theorem walk_last {g : List (List Int)} {S : Nat → Prop} {l : List Nat} (h : Walk g S l) : ∀ z, l[l.length - 1]? = some z → S z := by
  induction h with
  | one a _ hS => intro z h; simp at h; subst h; exact hS
  | on p q t _ _ ih =>
    intro z h
    have e : (q :: p :: t).length - 1 = ((p :: t).length - 1) + 1 := by simp
    rw [e, List.getElem?_cons_succ] at h
    exact ih z h

/-- Of a way of L places from x to y. -/
structure WayF (g : List (List Int)) (N x y L : Nat) (f : Nat → Nat) : Prop where
  at_ : ∀ i, i < L → (wayI g x y)[i]? = some (f i : Int) ∧ f i < N
  step : ∀ i j, i + 1 = j → j < L → E g (f i) (f j) = true
  fst : 0 < L → f 0 = x
  lst : ∀ i, i + 1 = L → f i = y
  len : L ≤ N
  told : reach g [(x : Int)] y = decide (0 < L)

theorem wayF {g : List (List Int)} {N x y L : Nat} (hN : g.length = N) (hL : (wayI g x y).length = L) : ∃ f, WayF g N x y L f := by
  have hLen : (way g x y).length = L := by rw [← hL, wayI, List.length_map]
  have hle : L ≤ N := by rw [← hL, ← hN]; exact wayI_short g x y
  refine ⟨fun i => (way g x y).getD i 0, ?_⟩
  cases hr : reach g [(x : Int)] y with
  | false =>
    have h0 : way g x y = [] := way_none fun v hv => by
      obtain rfl : v = y := by omega
      exact hr
    have : L = 0 := by rw [← hLen, h0]; rfl
    subst this
    exact ⟨fun i hi => by omega, fun i j _ hj => by omega, fun h => by omega, fun i h => by omega, hle, by simp [hr]⟩
  | true =>
    obtain ⟨⟨t, ht⟩, hw, _⟩ := way_some hr
    have hpos : 0 < L := by
      rw [← hLen, ← List.length_reverse, ht]; simp
    have rev : ∀ i, i < L → (way g x y).reverse[L - 1 - i]? = some ((way g x y).getD i 0) := fun i hi => by
      rw [List.getElem?_reverse (by omega), hLen, List.getD_eq_getElem?_getD]
      have e : L - 1 - (L - 1 - i) = i := by omega
      rw [e, List.getElem?_eq_getElem (by omega)]; rfl
    refine ⟨fun i hi => ⟨?_, ?_⟩, fun i j hij hj => ?_, fun _ => ?_, fun i hi => ?_, hle, by simp [hr, hpos]⟩
    · rw [wayI, List.getElem?_map, List.getD_eq_getElem?_getD, List.getElem?_eq_getElem (by omega)]; rfl
    · have := hw.all _ (List.mem_of_getElem? (rev i hi))
      rw [hN] at this; exact this
    · subst hij
      refine walk_step hw (L - 1 - (i + 1)) _ _ (rev (i + 1) hj) ?_
      have e : L - 1 - (i + 1) + 1 = L - 1 - i := by omega
      rw [e]; exact rev i (by omega)
    · have h1 := rev 0 hpos
      refine walk_last hw _ ?_
      rw [List.length_reverse, hLen]; exact h1
    · have h1 := rev i (by omega)
      have e : L - 1 - i = 0 := by omega
      rw [e, ht] at h1
      simpa using h1.symm

theorem way_off {g : List (List Int)} {N L : Nat} {a b : Int} (hN : g.length = N) (hL : (wayI g a b).length = L) (h : ¬ (0 ≤ a ∧ a < (N : Int)) ∨ ¬ (0 ≤ b ∧ b < (N : Int))) : L = 0 := by
  have : way g a b = [] := way_out (by
    rcases h with h | h
    · exact .inl (isP_no (by rw [hN]; exact h))
    · exact .inr (isP_no (by rw [hN]; exact h)))
  rw [← hL, wayI, this]; rfl

theorem BW.at2 {w : World} {A : Option Addr} {n c : Nat} {g : List (List Int)} {fs : List Int} (hN : g.length = n) (h : BW w (.slice A n c) g fs) {i : Nat} (hi : i < n) :
    ∃ ad, A = some ad ∧ w.cell? (ad.add i) = some (.bool (reach g fs i)) := by
  rcases SlV.inv h with ⟨_, e, _⟩ | ⟨ad, e, _, _, _, hc⟩
  · omega
  · exact ⟨ad, e, (hc i (.bool (reach g fs i)) (by simp [reachV, hN, hi])).2⟩
theorem IW.at2 {w : World} {A : Option Addr} {n c : Nat} {l : List Int} (h : IW w (.slice A n c) l) {i : Nat} {u : Int} (hi : l[i]? = some u) :
    ∃ ad, A = some ad ∧ w.cell? (ad.add i) = some (.int .i64 u) := by
  rcases SlV.inv h with ⟨_, _, _, e⟩ | ⟨ad, e, _, _, _, hc⟩
  · have : l = [] := by simpa [ints] using e
    rw [this] at hi; simp at hi
  · exact ⟨ad, e, (hc i (.int .i64 u) (by rw [ints, List.getElem?_map, hi]; rfl)).2⟩
end Go.Proofs.Ytfgnlemoodfgoaa.By
