/-
 Pa2
-/
import Derived.Test.YtdaimeaofgbfpaaGreatZa2
import Derived.Below
import Derived.Test.YtdaimeaofgbfpaaGreatRows
import Derived.Test.YtdaimeaofgbfpaaGreatQb2
import Derived.WalkKit
import Derived.ProofKit
import Derived.Lib.Hide
import Derived.BigQuiet
import Derived.Deep.QuietTactic
import Derived.LoopTactic
import Derived.IntWalk
import Derived.Shelf.Abstract
import Derived.OwnWalkIn
import Derived.TacticsInMore
import Derived.LoopNIn
import Derived.LoopIn
import Derived.Deep.RegionHeld3
import Derived.OrdersIn
import Derived.TacticsIn
import Derived.Laws.MakeOwn
import Derived.WalkLawsBesides
import Derived.OpenShut
import Derived.Handy
import Derived.WalkSpells
import Derived.Lib.AppendZerosOnto
import Derived.Outline
import Derived.Laws.EntriesVeiled
import Derived.Laws.IdiomStrings
import Derived.Lib.Strings
import Derived.Lib.AppendStr
import Derived.RegionTactic
import Derived.Lib.LaidTab
import Derived.Laws.BytesArg
import Derived.Lib.OthersKept
import Derived.Laws.RangeAny
set_option linter.unusedSimpArgs false
set_option linter.unusedVariables false
namespace Go.Proofs.YtdaimeaofgbfpaaGreat.Gm
def E (g : List (List Int)) (a b : Nat) : Bool := decide (a < g.length) && (decide (b < g.length) && (g.getD a []).contains (b : Int))
theorem E_iff {g : List (List Int)} {a b : Nat} : E g a b = true ↔ a < g.length ∧ b < g.length ∧ (b : Int) ∈ g.getD a [] := by simp [E]
def isP (g : List (List Int)) (p : Int) : Bool := decide (0 ≤ p) && decide (p < g.length)
theorem isP_iff {g : List (List Int)} {p : Int} : isP g p = true ↔ 0 ≤ p ∧ p < g.length := by simp [isP]
def kids (g : List (List Int)) (p : Nat) (t : List Nat) : List (Int × List Nat) := (g.getD p []).map fun c => (c, p :: t)
def bfs (g : List (List Int)) : Nat → List (Nat × List Nat) → List (Int × List Nat) → List (Nat × List Nat)
 | 0, _, _ => []
 | _ + 1, _, [] => []
 | f + 1, L, (p, t) :: q => if isP g p && !(L.map (·.1)).contains p.toNat then (p.toNat, t) :: bfs g f (L ++ [(p.toNat, t)]) (q ++ kids g p.toNat t) else bfs g f L q
def out (g : List (List Int)) (T : List Nat) : Nat := ((List.range g.length).map fun p => if T.contains p then 0 else (g.getD p []).length).sum
def mu (g : List (List Int)) (L : List (Nat × List Nat)) (q : List (Int × List Nat)) : Nat := q.length + out g (L.map (·.1))
theorem sum_split (f h : Nat → Nat) (a c : Nat) (l : List Nat) (hn : l.Nodup) (ha : a ∈ l) (hf : f a = 0) (hh : h a = c) (he : ∀ x, x ≠ a → f x = h x) : (l.map f).sum + c = (l.map h).sum := by
 induction l with
 | nil => cases ha
 | cons x l ih =>
  rw [List.nodup_cons] at hn
  simp only [List.map_cons, List.sum_cons]
  by_cases hx : x = a
  ·subst hx
   have : (l.map f) = (l.map h) := List.map_congr_left fun y hy => he y (fun e => hn.1 (e ▸ hy))
   rw [this, hf, hh]; omega
  ·have := ih hn.2 (by rcases List.mem_cons.1 ha with h | h; exact absurd h.symm hx; exact h)
   rw [he x hx]; omega
theorem out_add {g : List (List Int)} {T : List Nat} {p : Nat} (hp : p < g.length) (hT : T.contains p = false) : out g (T ++ [p]) + (g.getD p []).length = out g T := by
 unfold out
 refine sum_split _ _ p _ _ List.nodup_range (List.mem_range.2 hp) (by simp) (by simp only [hT]; simp) fun x hx => ?_
 have : (T ++ [p]).contains x = T.contains x := by
  rw [Bool.eq_iff_iff]; simp [hx]
 rw [this]
theorem bfs_yes {g : List (List Int)} {f : Nat} {L : List (Nat × List Nat)} {p : Int} {t : List Nat} {q : List (Int × List Nat)} (h1 : isP g p = true) (h2 : (L.map (·.1)).contains p.toNat = false) :
  bfs g (f + 1) L ((p, t) :: q) = (p.toNat, t) :: bfs g f (L ++ [(p.toNat, t)]) (q ++ kids g p.toNat t) := by
 rw [bfs, if_pos (by rw [h1, h2]; rfl)]
theorem bfs_no {g : List (List Int)} {f : Nat} {L : List (Nat × List Nat)} {p : Int} {t : List Nat} {q : List (Int × List Nat)} (h : isP g p = false ∨ (L.map (·.1)).contains p.toNat = true) :
  bfs g (f + 1) L ((p, t) :: q) = bfs g f L q := by
 rw [bfs, if_neg (by rcases h with h | h <;> simp only [h, Bool.not_true, Bool.and_false, Bool.false_and] <;> decide)]
theorem mu_yes {g : List (List Int)} {L : List (Nat × List Nat)} {p : Int} {t : List Nat} {q : List (Int × List Nat)} (h1 : isP g p = true) (h2 : (L.map (·.1)).contains p.toNat = false) :
  mu g (L ++ [(p.toNat, t)]) (q ++ kids g p.toNat t) + 1 = mu g L ((p, t) :: q) := by
 have hp : p.toNat < g.length := by have := isP_iff.1 h1; omega
 have := out_add hp h2
 unfold mu
 simp only [kids, List.length_append, List.length_map, List.map_append, List.map_cons, List.map_nil, List.length_cons] at this ⊢
 omega
theorem mu_no {g : List (List Int)} {L : List (Nat × List Nat)} {s : Int × List Nat} {q : List (Int × List Nat)} : mu g L q + 1 = mu g L (s :: q) := by
 unfold mu; simp; omega
theorem bfs_ind (g : List (List Int)) (Inv : List (Nat × List Nat) → List (Int × List Nat) → Prop)
  (hyes : ∀ L p t q, Inv L ((p, t) :: q) → isP g p = true → (L.map (·.1)).contains p.toNat = false → Inv (L ++ [(p.toNat, t)]) (q ++ kids g p.toNat t))
  (hno : ∀ L p t q, Inv L ((p, t) :: q) → (isP g p = false ∨ (L.map (·.1)).contains p.toNat = true) → Inv L q) :
  ∀ f L q, Inv L q → mu g L q ≤ f → Inv (L ++ bfs g f L q) [] := by
 intro f
 induction f with
 | zero =>
  intro L q h hm
  have : q = [] := by
   unfold mu at hm
   exact List.eq_nil_of_length_eq_zero (by omega)
  subst this
  simpa [bfs] using h
 | succ f ih =>
  intro L q h hm
  match q with
  | [] => simpa [bfs] using h
  | (p, t) :: q =>
   by_cases h1 : isP g p = true ∧ (L.map (·.1)).contains p.toNat = false
   ·rw [bfs_yes h1.1 h1.2]
    have h3 := mu_yes (q := q) (t := t) h1.1 h1.2
    have := ih _ _ (hyes L p t q h h1.1 h1.2) (by omega)
    simpa using this
   ·have h4 : isP g p = false ∨ (L.map (·.1)).contains p.toNat = true := by
     cases e : isP g p
     ·exact .inl rfl
     ·right
      cases e2 : (L.map (·.1)).contains p.toNat
      ·exact absurd ⟨e, e2⟩ h1
      ·rfl
    rw [bfs_no h4]
    have h3 := mu_no (g := g) (L := L) (s := (p, t)) (q := q)
    exact ih _ _ (hno L p t q h h4) (by omega)
inductive Walk (g : List (List Int)) (S : Nat → Prop) : List Nat → Prop
 | one (a : Nat) (ha : a < g.length) (hS : S a) : Walk g S [a]
 | on (u v : Nat) (t : List Nat) (h : Walk g S (u :: t)) (he : E g u v = true) : Walk g S (v :: u :: t)
theorem Walk.head {g : List (List Int)} {S : Nat → Prop} {v : Nat} {t : List Nat} (h : Walk g S (v :: t)) : v < g.length := by
 cases h with
 | one _ ha _ => exact ha
 | on u _ t h he => exact (E_iff.1 he).2.1
theorem Walk.all {g : List (List Int)} {S : Nat → Prop} {l : List Nat} (h : Walk g S l) : ∀ x ∈ l, x < g.length := by
 induction h with
 | one a ha _ => simpa using ha
 | on u v t h he ih =>
  intro x hx
  rcases List.mem_cons.1 hx with rfl | hx
  ·exact (E_iff.1 he).2.1
  ·exact ih x hx
structure Inv1 (g : List (List Int)) (fs : List Int) (L : List (Nat × List Nat)) (q : List (Int × List Nat)) : Prop where
 walk : ∀ s ∈ L, Walk g (fun a => (a : Int) ∈ fs) (s.1 :: s.2) ∧ (s.1 :: s.2).Nodup ∧ (∀ x ∈ s.2, x ∈ L.map (·.1)) ∧ (∀ u t, s.2 = u :: t → (u, t) ∈ L)
 wait : ∀ s ∈ q, (s.2 = [] ∧ s.1 ∈ fs) ∨ ∃ u t, s.2 = u :: t ∧ (u, t) ∈ L ∧ s.1 ∈ g.getD u []
 nodup : (L.map (·.1)).Nodup
 first : ∀ c ∈ fs, isP g c = true → c.toNat ∈ L.map (·.1) ∨ (c, []) ∈ q
 next : ∀ s ∈ L, ∀ c ∈ g.getD s.1 [], isP g c = true → c.toNat ∈ L.map (·.1) ∨ (c, s.1 :: s.2) ∈ q
theorem inv1_yes (g : List (List Int)) (fs : List Int) (L : List (Nat × List Nat)) (p : Int) (t : List Nat) (q : List (Int × List Nat)) (h : Inv1 g fs L ((p, t) :: q))
  (h1 : isP g p = true) (h2 : (L.map (·.1)).contains p.toNat = false) : Inv1 g fs (L ++ [(p.toNat, t)]) (q ++ kids g p.toNat t) := by
 have hp := isP_iff.1 h1
 have hpn : ((p.toNat : Nat) : Int) = p := by omega
 have hnot : p.toNat ∉ L.map (·.1) := by simpa using h2
 have hlt : p.toNat < g.length := by omega
 have hmem : ∀ x, x ∈ (L ++ [(p.toNat, t)]).map (·.1) ↔ x ∈ L.map (·.1) ∨ x = p.toNat := by simp
 have hw : Walk g (fun a => (a : Int) ∈ fs) (p.toNat :: t) ∧ (p.toNat :: t).Nodup ∧ (∀ x ∈ t, x ∈ L.map (·.1)) ∧ (∀ u t', t = u :: t' → (u, t') ∈ L) := by
  rcases h.wait _ (List.mem_cons_self) with ⟨ht, hf⟩ | ⟨u, t', ht, hu, hc⟩
  ·simp only at ht hf; subst ht
   exact ⟨.one _ hlt (by rw [hpn]; exact hf), by simp, by simp, by simp⟩
  ·simp only at ht hc; subst ht
   have hu' := h.walk _ hu
   have hul : u < g.length := hu'.1.head
   refine ⟨.on u _ t' hu'.1 (E_iff.2 ⟨hul, hlt, by rw [hpn]; exact hc⟩), ?_, ?_, ?_⟩
   ·rw [List.nodup_cons]
    refine ⟨fun hx => hnot ?_, hu'.2.1⟩
    rcases List.mem_cons.1 hx with hx | hx
    ·rw [hx]; exact List.mem_map.2 ⟨_, hu, rfl⟩
    ·exact hu'.2.2.1 _ hx
   ·intro x hx
    rcases List.mem_cons.1 hx with hx | hx
    ·rw [hx]; exact List.mem_map.2 ⟨_, hu, rfl⟩
    ·exact hu'.2.2.1 _ hx
   ·intro u2 t2 he
    injection he with e1 e2; subst e1 e2; exact hu
 constructor
 ·intro s hs
  rcases List.mem_append.1 hs with hs | hs
  ·obtain ⟨a, b, c, d⟩ := h.walk s hs
   exact ⟨a, b, fun x hx => (hmem x).2 (.inl (c x hx)), fun u t' e => List.mem_append.2 (.inl (d u t' e))⟩
  ·rw [List.mem_singleton] at hs; subst hs
   exact ⟨hw.1, hw.2.1, fun x hx => (hmem x).2 (.inl (hw.2.2.1 x hx)), fun u t' e => List.mem_append.2 (.inl (hw.2.2.2 u t' e))⟩
 ·intro s hs
  rcases List.mem_append.1 hs with hs | hs
  ·rcases h.wait s (List.mem_cons_of_mem _ hs) with h3 | ⟨u, t', h3, h4, h5⟩
   ·exact .inl h3
   ·exact .inr ⟨u, t', h3, List.mem_append.2 (.inl h4), h5⟩
  ·obtain ⟨c, hc, rfl⟩ := List.mem_map.1 hs
   exact .inr ⟨p.toNat, t, rfl, by simp, hc⟩
 ·rw [List.map_append, List.nodup_append]
  refine ⟨h.nodup, by simp, fun a ha b hb => ?_⟩
  simp at hb; subst hb
  exact fun e => hnot (e ▸ ha)
 ·intro c hc hcp
  rcases h.first c hc hcp with h3 | h3
  ·exact .inl ((hmem _).2 (.inl h3))
  ·rcases List.mem_cons.1 h3 with h3 | h3
   ·injection h3 with e1 e2; subst e1; exact .inl ((hmem _).2 (.inr rfl))
   ·exact .inr (List.mem_append.2 (.inl h3))
 ·intro s hs c hc hcp
  rcases List.mem_append.1 hs with hs | hs
  ·rcases h.next s hs c hc hcp with h3 | h3
   ·exact .inl ((hmem _).2 (.inl h3))
   ·rcases List.mem_cons.1 h3 with h3 | h3
    ·injection h3 with e1 e2; subst e1; exact .inl ((hmem _).2 (.inr rfl))
    ·exact .inr (List.mem_append.2 (.inl h3))
  ·rw [List.mem_singleton] at hs; subst hs
   exact .inr (List.mem_append.2 (.inr (List.mem_map.2 ⟨c, hc, rfl⟩)))
theorem inv1_no (g : List (List Int)) (fs : List Int) (L : List (Nat × List Nat)) (p : Int) (t : List Nat) (q : List (Int × List Nat)) (h : Inv1 g fs L ((p, t) :: q))
  (h1 : isP g p = false ∨ (L.map (·.1)).contains p.toNat = true) : Inv1 g fs L q := by
 have hin : isP g p = true → p.toNat ∈ L.map (·.1) := fun e => by
  rcases h1 with h1 | h1
  ·rw [e] at h1; cases h1
  ·simpa using h1
 refine ⟨h.walk, fun s hs => h.wait s (List.mem_cons_of_mem _ hs), h.nodup, fun c hc hcp => ?_, fun s hs c hc hcp => ?_⟩
 ·rcases h.first c hc hcp with h3 | h3
  ·exact .inl h3
  ·rcases List.mem_cons.1 h3 with h3 | h3
   ·injection h3 with e1 e2; subst e1; exact .inl (hin hcp)
   ·exact .inr h3
 ·rcases h.next s hs c hc hcp with h3 | h3
  ·exact .inl h3
  ·rcases List.mem_cons.1 h3 with h3 | h3
   ·injection h3 with e1 e2; subst e1; exact .inl (hin hcp)
   ·exact .inr h3
def fuel (g : List (List Int)) (k : Nat) : Nat := k + out g []
def told (g : List (List Int)) (fs : List Int) : List (Nat × List Nat) := bfs g (fuel g fs.length) [] (fs.map fun c => (c, []))
theorem told_inv (g : List (List Int)) (fs : List Int) : Inv1 g fs (told g fs) [] := by
 have := bfs_ind g (Inv1 g fs) (inv1_yes g fs) (inv1_no g fs) (fuel g fs.length) [] (fs.map fun c => (c, [])) ?_ (by simp [mu, fuel])
 ·exact this
 ·refine ⟨by simp, fun s hs => ?_, by simp, fun c hc _ => .inr (List.mem_map.2 ⟨c, hc, rfl⟩), by simp⟩
  obtain ⟨c, hc, rfl⟩ := List.mem_map.1 hs
  exact .inl ⟨rfl, hc⟩
def reach (g : List (List Int)) (fs : List Int) (v : Nat) : Bool := ((told g fs).map (·.1)).contains v
theorem reach_iff (g : List (List Int)) (fs : List Int) (v : Nat) : reach g fs v = true ↔ ∃ t, Walk g (fun a => (a : Int) ∈ fs) (v :: t) := by
 have hi := told_inv g fs
 constructor
 ·intro h
  have h : v ∈ (told g fs).map (·.1) := by simpa [reach] using h
  obtain ⟨s, hs, rfl⟩ := List.mem_map.1 h
  exact ⟨s.2, (hi.walk s hs).1⟩
 ·rintro ⟨t, hw⟩
  suffices h : v ∈ (told g fs).map (·.1) by simpa [reach] using h
  have key : ∀ l, Walk g (fun a => (a : Int) ∈ fs) l → ∀ v t, l = v :: t → v ∈ (told g fs).map (·.1) := by
   intro l hl
   induction hl with
   | one a ha hS =>
    intro v t e
    injection e with e1 e2; subst e1
    rcases hi.first (a : Int) hS (isP_iff.2 ⟨by omega, by omega⟩) with h3 | h3
    ·exact h3
    ·cases h3
   | on u v t h he ih =>
    intro v2 t2 e
    injection e with e1 e2; subst e1
    have hu := ih u t rfl
    obtain ⟨s, hs, hs1⟩ := List.mem_map.1 hu
    have he' := E_iff.1 he
    rcases hi.next s hs (v : Int) (by rw [hs1]; exact he'.2.2) (isP_iff.2 ⟨by omega, by omega⟩) with h3 | h3
    ·exact h3
    ·cases h3
  exact key _ hw v t rfl
theorem nodup_len : ∀ (n : Nat) (l : List Nat), l.Nodup → (∀ x ∈ l, x < n) → l.length ≤ n := by
 intro n
 induction n with
 | zero => intro l _ h; cases l with
  | nil => simp
  | cons x l => exact absurd (h x (by simp)) (by omega)
 | succ n ih =>
  intro l hl h
  by_cases hn : n ∈ l
  ·have h1 := List.length_erase_of_mem hn
   have h2 := ih (l.erase n) (hl.erase n) (fun x hx => by
    have := (hl.mem_erase_iff).1 hx
    have := h x this.2
    omega)
   omega
  ·have := ih l hl (fun x hx => by
    have h1 := h x hx
    have : x ≠ n := fun e => hn (e ▸ hx)
    omega)
   omega
theorem told_short {g : List (List Int)} {fs : List Int} {v : Nat} {t : List Nat} (h : (v, t) ∈ told g fs) : (v :: t).length ≤ g.length := by
 have := (told_inv g fs).walk _ h
 exact nodup_len _ _ this.2.1 this.1.all
def gr (n : Nat) (R : Nat → Nat → Bool) : List (List Int) := (List.range n).map fun a => ((List.range n).filter (R a)).map fun (b : Nat) => (b : Int)
def clean (g : List (List Int)) : List (List Int) := gr g.length (E g)
end Go.Proofs.YtdaimeaofgbfpaaGreat.Gm
namespace Go.Proofs.YtdaimeaofgbfpaaGreat.By
open Go.RowKit
open Mem Gm Rf
theorem ret_int {k : IntKind} {a b : Int} (h : a = b) : Ending.returned (.int k a) = .returned (.int k b) := by rw [h]
def rowOf (g : List (List Int)) (a : Nat) : List Int := g.getD a []
def el (l : List Int) (i : Nat) : Int := l.getD i 0
theorem el_at {l : List Int} {i : Nat} (h : i < l.length) : l[i] = el l i := by unfold el; rw [List.getD_eq_getElem?_getD, List.getElem?_eq_getElem h]; rfl
def ints (l : List Int) : List Value := l.map (Value.int .i64)
theorem ints_at {l : List Int} {i : Nat} (hi : i < l.length) : (ints l)[i]? = some (.int .i64 (el l i)) := by
 rw [ints, List.getElem?_map, List.getElem?_eq_getElem hi, el_at hi]; rfl
def Gr (w : World) (B : Nat) (v : Value) (g : List (List Int)) : Prop :=
 ∃ rs, SlV w B v rs ∧ rs.length = g.length ∧ ∀ i rv, rs[i]? = some rv → ∃ A c, rv = .slice A (rowOf g i).length c ∧ SlV w B rv (ints (rowOf g i))
section
variable {w w' : World} {B B' : Nat} {v : Value} {g : List (List Int)}
theorem Gr.keep (h : Gr w B v g) (hk : ∀ p : Addr, p.block < B → w'.cell? p = w.cell? p) : Gr w' B v g := by
 obtain ⟨rs, h1, h2, h3⟩ := h
 exact ⟨rs, h1.keep hk, h2, fun i rv hi => by obtain ⟨A, c, e, hs⟩ := h3 i rv hi; exact ⟨A, c, e, hs.keep hk⟩⟩
theorem Gr.more (h : Gr w B v g) (hB : B ≤ B') : Gr w B' v g := by
 obtain ⟨rs, h1, h2, h3⟩ := h
 exact ⟨rs, h1.more hB, h2, fun i rv hi => by obtain ⟨A, c, e, hs⟩ := h3 i rv hi; exact ⟨A, c, e, hs.more hB⟩⟩
theorem Gr.below (h : Gr w B v g) (hb : Below B w w') : Gr w' B v g := h.keep fun _ hp => hb.cell hp
theorem Gr.rows (h : Gr w B v g) (h0 : 0 < g.length) : ∃ ad c, v = .slice (some ad) g.length c ∧ g.length ≤ c ∧ c ≤ maxLen ∧ ad.block < B ∧
  ∀ i, i < g.length → ∃ A c, w.cell? (ad.add i) = some (.slice A (rowOf g i).length c) ∧ SlV w B (.slice A (rowOf g i).length c) (ints (rowOf g i)) := by
 obtain ⟨rs, h1, h2, h3⟩ := h
 cases h1 with
 | nil => simp at h2; omega
 | at_ ad cap _ hc hm hr =>
  have hrow : ∀ i, i < g.length → ∃ A c, w.cell? (ad.add i) = some (.slice A (rowOf g i).length c) ∧ SlV w B (.slice A (rowOf g i).length c) (ints (rowOf g i)) := fun i hi => by
   have hi' : i < rs.length := by omega
   obtain ⟨A, c, e, hs⟩ := h3 i _ (List.getElem?_eq_getElem hi')
   refine ⟨A, c, ?_, e ▸ hs⟩
   rw [hr.at_ hi', e]
  refine ⟨ad, cap, by rw [h2], by omega, hm, ?_, hrow⟩
  have := (hr 0 rs[0] (List.getElem?_eq_getElem (by omega))).1
  exact this
end
theorem ints_row {w : World} {B : Nat} {A : Option Addr} {c : Nat} {l : List Int} (h : SlV w B (.slice A l.length c) (ints l)) :
  (l = [] ∧ ((A = none ∧ c = 0) ∨ ∃ ad, A = some ad)) ∨ ∃ ad, A = some ad ∧ ad.block < B ∧ ∀ i, i < l.length → w.cell? (ad.add i) = some (.int .i64 (el l i)) := by
 rcases h.inv with ⟨rfl, h1, rfl, _⟩ | ⟨ad, rfl, _, _, _, hr⟩
 ·left; exact ⟨List.eq_nil_of_length_eq_zero h1, .inl ⟨rfl, rfl⟩⟩
 ·cases l with
  | nil => left; exact ⟨rfl, .inr ⟨ad, rfl⟩⟩
  | cons x l =>
   right
   refine ⟨ad, rfl, (hr 0 (.int .i64 x) (by simp [ints])).1, fun i hi => (hr i _ (ints_at hi)).2⟩
end Go.Proofs.YtdaimeaofgbfpaaGreat.By
namespace Go.Proofs.YtdaimeaofgbfpaaGreat.By
open Go.RowKit
open Mem Gm Rf
attribute [local go_sem] Oper.semAt_some
end Go.Proofs.YtdaimeaofgbfpaaGreat.By
namespace Go.Proofs.YtdaimeaofgbfpaaGreat.Rf
open Go.RowKit
def Only (Q : Exit → Act → World → Prop) : Exit → Act → World → Prop
 | .normal, a, w => Q .normal a w
 | _, _, _ => False
theorem Only.imp {Q : Exit → Act → World → Prop} : ∀ e a w, Only Q e a w → Q e a w
 | .normal, _, _, h => h
 | .exit _, _, _, h => h.elim
 | .goto _, _, _, h => h.elim
 | .ret, _, _, h => h.elim
 | .panic _, _, _, h => h.elim
 | .outgrown, _, _, h => h.elim
def Mid (w : World) (L : Nat) (e : TypeId) (size : Nat) (v : Value) (n : Nat) (xs : List Value) : Prop :=
 xs.length = n * size ∧ ∃ a cap, v = .slice a n cap ∧ n ≤ cap ∧ cap ≤ maxLen ∧
  ((cap = 0 ∧ (a = none ∨ ∃ ad, a = some ad)) ∨ ∃ g off cur, a = some ⟨g, off, none⟩ ∧ L ≤ g ∧ w.heap[g]? = some (.cells cur e (0, 0)) ∧ off + cap * size ≤ cur.size ∧ ∀ j u, xs[j]? = some u → cur[off + j]? = some u)
section
variable {P : Program} {w w' : World} {L e size n : Nat} {v : Value} {xs : List Value}
theorem Mid.nil (w : World) (L : Nat) (e : TypeId) (size : Nat) : Mid w L e size (.slice none 0 0) 0 [] := ⟨by simp, none, 0, rfl, Nat.le_refl _, Nat.zero_le _, .inl ⟨rfl, .inl rfl⟩⟩
theorem Mid.keep (h : Mid w L e size v n xs) (hk : ∀ g, L ≤ g → g < w.heap.size → w'.heap[g]? = w.heap[g]?) : Mid w' L e size v n xs := by
 obtain ⟨h1, a, cap, hv, hn, hm, h2⟩ := h
 refine ⟨h1, a, cap, hv, hn, hm, ?_⟩
 rcases h2 with h2 | ⟨g, off, cur, ha, hL, hg, hs, hx⟩
 ·exact .inl h2
 ·exact .inr ⟨g, off, cur, ha, hL, (hk g hL (Array.getElem?_eq_some_iff.1 hg).1).trans hg, hs, hx⟩
theorem Mid.front (h : Mid w L e size v n xs) (hn : 0 < n) : ∃ g off cap, v = .slice (some ⟨g, off, none⟩) n cap ∧ n ≤ cap ∧ cap ≤ maxLen ∧ L ≤ g ∧ g < w.heap.size ∧ ∀ j u, xs[j]? = some u → w.cell? ⟨g, off + j, none⟩ = some u := by
 obtain ⟨_, a, cap, rfl, hc, hm, h2⟩ := h
 rcases h2 with ⟨h2, _⟩ | ⟨g, off, cur, rfl, hL, hg, hs, hx⟩
 ·omega
 ·exact ⟨g, off, cap, rfl, hc, hm, hL, (Array.getElem?_eq_some_iff.1 hg).1, fun j u hu => by rw [cell_of_row w g _ cur e (0, 0) hg]; exact hx j u hu⟩
end
end Go.Proofs.YtdaimeaofgbfpaaGreat.Rf
namespace Go.Proofs.YtdaimeaofgbfpaaGreat.By
open Go.RowKit
open Mem Gm Rf
def OwnG (w : World) (rb base : Nat) (T E : TypeId) (L : List (List Int)) : Prop :=
 ∃ rs : List Value, rs.length = L.length ∧ Blk w rb T rs.toArray ∧ (∀ (i : Nat) rv, rs[i]? = some rv → w.ownsRow base E 1 rv (rowOf L i).length (ints (rowOf L i))) ∧
  ∀ (i j : Nat) rv rv', i ≠ j → rs[i]? = some rv → rs[j]? = some rv' → rv.ownBlock = none ∨ rv.ownBlock ≠ rv'.ownBlock
section
variable {w w' : World} {rb base : Nat} {T E : TypeId} {L : List (List Int)}
theorem own_keep {v : Value} {n : Nat} {xs : List Value} (h : w.ownsRow base E 1 v n xs) (hk : ∀ g, base ≤ g → g < w.heap.size → v.ownBlock = some g → w'.heap[g]? = w.heap[g]?) : w'.ownsRow base E 1 v n xs := by
 obtain ⟨h1, h2⟩ := h
 refine ⟨h1, ?_⟩
 rcases h2 with h2 | ⟨g, cap, cur, hv, hb, hg, r⟩
 ·exact .inl h2
 ·exact .inr ⟨g, cap, cur, hv, hb, (hk g hb (Array.getElem?_eq_some_iff.1 hg).1 (by rw [hv]; rfl)).trans hg, r⟩
theorem OwnG.keep (h : OwnG w rb base T E L) (hk : ∀ g, (g = rb ∨ base ≤ g) → g < w.heap.size → w'.heap[g]? = w.heap[g]?) : OwnG w' rb base T E L := by
 obtain ⟨rs, h1, h2, h3, h4⟩ := h
 exact ⟨rs, h1, (hk rb (.inl rfl) h2.lt).trans h2, fun i rv hi => own_keep (h3 i rv hi) fun g hg hl _ => hk g (.inr hg) hl, h4⟩
theorem OwnG.lt (h : OwnG w rb base T E L) : rb < w.heap.size := by obtain ⟨rs, _, h2, _⟩ := h; exact h2.lt
theorem rowOf_set {l : List Int} {a i : Nat} (ha : a < L.length) : rowOf (L.set a l) i = if i = a then l else rowOf L i := by
 unfold rowOf
 rw [List.getD_eq_getElem?_getD, List.getElem?_set]
 by_cases h : a = i
 ·subst h; simp [ha]
 ·rw [if_neg h, if_neg (fun e => h e.symm), List.getD_eq_getElem?_getD]
theorem OwnG.at_ (h : OwnG w rb base T E L) (hrb : rb < base) {a : Nat} (ha : a < L.length) : ∃ rv, w.cell? ⟨rb, a, none⟩ = some rv ∧ w.frozen? ⟨rb, a, none⟩ = false ∧ rv.oneCell' = true ∧
  w.ownsRow base E 1 rv (rowOf L a).length (ints (rowOf L a)) ∧ (∃ A c, rv = .slice A (rowOf L a).length c) ∧
  ∀ (rv' : Value) (l : List Int) (w1 : World) , rv'.oneCell' = true → w1.ownsRow base E 1 rv' l.length (ints l) → (rv'.ownBlock = none ∨ rv'.ownBlock = rv.ownBlock ∨ ∃ k, rv'.ownBlock = some k ∧ w.heap.size ≤ k) →
   (∀ g, (g = rb ∨ base ≤ g) → g < w.heap.size → rv.ownBlock ≠ some g → w1.heap[g]? = w.heap[g]?) → OwnG (w1.setCell ⟨rb, a, none⟩ rv') rb base T E (L.set a l) := by
 obtain ⟨rs, h1, h2, h3, h4⟩ := h
 have har : a < rs.length := by omega
 have hget : rs[a]? = some rs[a] := List.getElem?_eq_getElem har
 have hown := h3 a _ hget
 refine ⟨rs[a], by rw [h2.cell, List.getElem?_toArray, hget], h2.frozen a, ?_, hown, ?_, ?_⟩
 ·rcases hown.2 with ⟨e, _⟩ | ⟨g, cap, cur, e, _⟩ <;> rw [e] <;> rfl
 ·rcases hown.2 with ⟨e, e2⟩ | ⟨g, cap, cur, e, _⟩
  ·exact ⟨none, 0, by rw [e, e2]⟩
  ·exact ⟨_, _, e⟩
 intro rv' l w1 hone hown' hplace hk
 have hne : rs[a].ownBlock ≠ some rb := fun e => by
  have := (hown.lt rb e).1; omega
 have hblk : Blk w1 rb T rs.toArray := (hk rb (.inl rfl) h2.lt hne).trans h2
 have hb' : Blk (w1.setCell ⟨rb, a, none⟩ rv') rb T (rs.set a rv').toArray := by
  have := hblk.stored a rv'
  rwa [List.setIfInBounds_toArray] at this
 have hset : ∀ (i : Nat) x, (rs.set a rv')[i]? = some x → (i = a ∧ x = rv') ∨ (i ≠ a ∧ rs[i]? = some x) := fun i x hx => by
  rw [List.getElem?_set] at hx
  by_cases e : a = i
  ·subst e; rw [if_pos rfl, if_pos har] at hx; left; exact ⟨rfl, (Option.some.inj hx).symm⟩
  ·rw [if_neg e] at hx; exact .inr ⟨fun e' => e e'.symm, hx⟩
 refine ⟨rs.set a rv', by simp [h1], hb', fun i x hx => ?_, fun i j x y hij hx hy => ?_⟩
 ·rw [rowOf_set ha]
  rcases hset i x hx with ⟨rfl, rfl⟩ | ⟨hi, hx⟩
  ·rw [if_pos rfl]
   refine own_keep hown' fun g hg _ _ => Below.heap_setCell _ _ _ _ ?_
   show g ≠ rb; omega
  ·rw [if_neg hi]
   have hx' := h3 i x hx
   refine own_keep hx' fun g hg hl he => ?_
   rw [Below.heap_setCell _ _ _ _ (show g ≠ rb by omega)]
   refine hk g (.inr hg) hl fun e => ?_
   rcases h4 a i _ _ (fun e => hi e.symm) hget hx with h5 | h5
   ·rw [h5] at e; cases e
   ·exact h5 (e.trans he.symm)
 ·have key : ∀ (k : Nat) z, k ≠ a → rs[k]? = some z → rv'.ownBlock = none ∨ rv'.ownBlock ≠ z.ownBlock := fun k z hk hz => by
   rcases hplace with h5 | h5 | ⟨q, h5, h6⟩
   ·exact .inl h5
   ·rw [h5]; exact h4 a k _ _ (fun e => hk e.symm) hget hz
   ·right
    rw [h5]
    intro e
    have := ((h3 k z hz).lt q e.symm).2
    omega
  have hi0 := hset i x hx
  have hj0 := hset j y hy
  clear hx hy
  rcases hi0 with ⟨ei, ex⟩ | ⟨hi, hx⟩
  ·rcases hj0 with ⟨ej, _⟩ | ⟨hj, hy⟩
   ·exact absurd (ei.trans ej.symm) hij
   ·rw [ex]; exact key j y hj hy
  ·rcases hj0 with ⟨_, ey⟩ | ⟨hj, hy⟩
   ·rw [ey]
    rcases key i x hi hx with h5 | h5
    ·rw [h5]
     cases e : x.ownBlock with
     | none => exact .inl rfl
     | some q => right; simp
    ·exact .inr fun e => h5 e.symm
   ·exact h4 i j x y hij hx hy
theorem OwnG.gr (h : OwnG w rb base T E L) (cap : Nat) (hc : L.length ≤ cap) (hm : cap ≤ maxLen) : Gr w w.heap.size (.slice (some ⟨rb, 0, none⟩) L.length cap) L := by
 obtain ⟨rs, h1, h2, h3, h4⟩ := h
 refine ⟨rs, ?_, h1, fun i rv hi => ?_⟩
 ·rw [← h1]
  refine .at_ _ _ rs (by omega) hm fun j u hu => ⟨h2.lt, ?_⟩
  rw [add_plain, Nat.zero_add, h2.cell, List.getElem?_toArray, hu]
 ·have hs := SlV.of_own (h3 i rv hi)
  rcases (h3 i rv hi).2 with ⟨e, e2⟩ | ⟨g, c, cur, e, _⟩
  ·exact ⟨none, 0, by rw [e, e2], hs⟩
  ·exact ⟨_, _, e, hs⟩
theorem OwnG.start (w : World) (n : Nat) (base : Nat) (h : Blk w rb T (Array.replicate n (.slice none 0 0))) : OwnG w rb base T E (List.replicate n []) := by
 refine ⟨List.replicate n (.slice none 0 0), by simp, by simpa using h, fun i rv hi => ?_, fun i j rv rv' _ hi _ => .inl ?_⟩
 ·have := List.mem_of_getElem? hi
  rw [List.mem_replicate] at this
  rw [this.2]
  have h0 : rowOf (List.replicate n []) i = [] := by
   unfold rowOf; rw [List.getD_eq_getElem?_getD, List.getElem?_replicate]; split <;> rfl
  rw [h0]
  exact World.ownsRow_nil _ _ _ _
 ·have := List.mem_of_getElem? hi
  rw [List.mem_replicate] at this
  rw [this.2]; rfl
end
theorem append_where {P : Program} (w : World) (base : Nat) (t ty e : TypeId) (i : TypeInfo) (z : Value) (size bytes : Nat) (ht : P.underlying t = some (.slice e)) (hi : P.info? e = some i) (hz : i.zero = some z)
  (hsize : i.size = size) (hby : i.bytes = bytes)
  (v : Value) (n : Nat) (xs : List Value) (hown : w.ownsRow base e size v n xs)
  (a : Addr) (m c : Nat) (news : List Value) (hm : 0 < m) (hl : news.length = m * size) (hnews : ∀ j u, news[j]? = some u → w.cell? (a.add j) = some u) (h1 : ∀ u ∈ news, u.oneCell' = true)
  (h63 : n + m ≤ maxLen) (hbytes : (n + m) * bytes ≤ 140737488355328) {v' : Value} {w' : World} (hr : (Builtin.append_ #[t, t] ty #[v, .slice (some a) m c]).run P w = .ok v' w') :
  v'.ownBlock = v.ownBlock ∨ v'.ownBlock = some w.heap.size := by
 subst hsize hby
 have hsmall : n + m ≤ 9223372036854775807 := by simp only [maxLen] at h63; omega
 rcases hown.2 with ⟨rfl, rfl⟩ | ⟨g, cap, cur, rfl, hbg, hg, hnc, hcm, hcs, htake⟩
 ·have h2 := run_append_nil (P := P) w t ty e i z ht hi hz a m c news hl hnews hm (by omega) (by have hb := hbytes; simp only [Nat.zero_add] at hb; omega)
  rw [hr] at h2
  injection h2 with h2
  right; rw [h2]; rfl
 ·by_cases hroom : n + m ≤ cap
  ·have hfit : n * i.size + news.length ≤ cur.size := by rw [hl, hcs, ← Nat.add_mul]; exact Nat.mul_le_mul_right _ hroom
   have h2 := run_append_room (P := P) w t ty e i ht hi g n cap cur hg a m c news hl hnews h1 hroom hfit
   rw [hr] at h2
   injection h2 with h2
   left; rw [h2]; rfl
  ·have holds : ∀ j u, xs[j]? = some u → w.cell? ((⟨g, 0, none⟩ : Addr).add j) = some u := hown.cells (g := g) rfl
   have h2 := run_append_grow (P := P) w t ty e i z ht hi hz ⟨g, 0, none⟩ n cap xs hown.1 holds a m c news hl hnews (by omega) (by omega) (growslice_fits (by omega) hbytes)
   rw [hr] at h2
   injection h2 with h2
   right; rw [h2]; rfl
section
variable {α : Type} {k : Nat} {enc : α → List Value} {w w' : World} {B B' n c : Nat} {v : Value} {A : Option Addr} {l : List α}
def Wd (k : Nat) (enc : α → List Value) (w : World) (B : Nat) (A : Option Addr) (n c : Nat) (l : List α) : Prop :=
 l.length = n ∧ n ≤ c ∧ c ≤ maxLen ∧ (A = none → c = 0) ∧ ∀ i x, l[i]? = some x → ∃ ad, A = some ad ∧ ad.block < B ∧ ∀ j u, (enc x)[j]? = some u → w.cell? ((ad.add (i * k)).add j) = some u
theorem Wd.keep (h : Wd k enc w B A n c l) (hk : ∀ p : Addr, p.block < B → w'.cell? p = w.cell? p) : Wd k enc w' B A n c l :=
 ⟨h.1, h.2.1, h.2.2.1, h.2.2.2.1, fun i x hi => by
  obtain ⟨ad, e, hb, hc⟩ := h.2.2.2.2 i x hi
  exact ⟨ad, e, hb, fun j u hu => (hk _ (by rw [add_block, add_block]; exact hb)).trans (hc j u hu)⟩⟩
theorem Wd.below (h : Wd k enc w B A n c l) (hb : Below B w w') : Wd k enc w' B A n c l := h.keep fun _ hp => hb.cell hp
theorem Wd.more (h : Wd k enc w B A n c l) (hB : B ≤ B') : Wd k enc w B' A n c l :=
 ⟨h.1, h.2.1, h.2.2.1, h.2.2.2.1, fun i x hi => by
  obtain ⟨ad, e, hb, hc⟩ := h.2.2.2.2 i x hi
  exact ⟨ad, e, by omega, hc⟩⟩
theorem Wd.nil : Wd k enc w B none 0 0 ([] : List α) := ⟨rfl, Nat.le_refl _, Nat.zero_le _, fun _ => rfl, fun i x hi => by simp at hi⟩
end
theorem add_field (x : Addr) (j : Nat) (hj : 0 < j) : x.add j = ⟨x.block, x.off + j, none⟩ := by
 unfold Addr.add
 rw [if_neg (by omega)]
theorem to_ {w w' w'' : World} (h : Below w.heap.size w w') (k : Below w'.heap.size w' w'') : Below w.heap.size w w'' := h.trans (k.mono h.size)
theorem alloc_ (w : World) (o : Obj) : Below w.heap.size w (w.alloc o) := (Below.refl _ w).alloc (Nat.le_refl _) o
theorem Gr.reads {w : World} {B : Nat} {A : Option Addr} {N c : Nat} {g : List (List Int)} (h : Gr w B (.slice A N c) g) (hN : g.length = N) {i : Nat} (hi : i < N) :
  ∃ ad A' c', A = some ad ∧ w.cell? (ad.add i) = some (.slice A' (rowOf g i).length c') ∧ (rowOf g i).length ≤ maxLen ∧ ∀ j, j < (rowOf g i).length → ∃ ad', A' = some ad' ∧ w.cell? (ad'.add j) = some (.int .i64 (el (rowOf g i) j)) := by
 rw [← hN] at h hi
 obtain ⟨ad, c2, e, _, _, _, hr⟩ := h.rows (by omega)
 injection e with e1
 obtain ⟨A', c', h1, h2⟩ := hr i hi
 refine ⟨ad, A', c', e1, h1, ?_, fun j hj => ?_⟩
 ·rcases h2.inv with ⟨_, h, _⟩ | ⟨_, _, _, h3, h4, _⟩
  ·unfold maxLen; omega
  ·omega
 ·rcases ints_row h2 with ⟨e, _⟩ | ⟨ad', e, _, hc⟩
  ·rw [e] at hj; simp at hj
  ·exact ⟨ad', e, hc j hj⟩
end Go.Proofs.YtdaimeaofgbfpaaGreat.By
namespace Go.Proofs.YtdaimeaofgbfpaaGreat.By
open Go.ChangeShapes Go.WideShapes Go.ChangeAt Go.RowKit
open Mem
theorem wrap_in (z : Int) (h : -9223372036854775808 ≤ z ∧ z ≤ 9223372036854775807) : wrap64 z = z := by
 unfold wrap64; omega
end Go.Proofs.YtdaimeaofgbfpaaGreat.By
namespace Go.Proofs.YtdaimeaofgbfpaaGreat.By
open Go.RowKit
open Mem Gm Rf
theorem own_formW {w : World} {base n : Nat} {v : Value} {xs : List Value} {e : TypeId} {k : Nat} (h : w.ownsRow base e k v n xs) : ∃ A c, v = .slice A n c := by
 rcases h.2 with ⟨rfl, rfl⟩ | ⟨g, cap, cur, rfl, _⟩
 ·exact ⟨none, 0, rfl⟩
 ·exact ⟨_, cap, rfl⟩
theorem ints_app1 (l : List Int) (z : Int) : ints l ++ [.int .i64 z] = ints (l ++ [z]) := by simp [ints]
def IW (w : World) (v : Value) (l : List Int) : Prop := SlV w w.heap.size v (ints l)
theorem IW.on {w w' : World} {v : Value} {l : List Int} (h : IW w v l) (hb : Below w.heap.size w w') : IW w' v l := (SlV.below h hb).more hb.size
def IAns (L : Nat) (l : List Int) (w : World) (e : Ending) (w' : World) : Prop := ∃ A c, e = .returned (.slice A L c) ∧ IW w' (.slice A L c) l ∧ Below w.heap.size w w'
abbrev Rl := Int × Int × Bool
abbrev Sy := ByteArray × Bool × Int × Int × Int
def encRl (x : Rl) : List Value := [.int .i64 x.1, .int .i64 x.2.1, .bool x.2.2]
def encSy (x : Sy) : List Value := [.string x.1, .bool x.2.1, .int .i64 x.2.2.1, .int .i64 x.2.2.2.1, .int .i64 x.2.2.2.2]
def rlAt (l : List Rl) (i : Nat) : Rl := l.getD i (0, 0, false)
def syAt (l : List Sy) (i : Nat) : Sy := l.getD i (⟨#[]⟩, false, 0, 0, 0)
theorem rlAt_some {l : List Rl} {i : Nat} (h : i < l.length) : l[i]? = some (rlAt l i) := by unfold rlAt; rw [List.getD_eq_getElem?_getD, List.getElem?_eq_getElem h]; rfl
theorem syAt_some {l : List Sy} {i : Nat} (h : i < l.length) : l[i]? = some (syAt l i) := by unfold syAt; rw [List.getD_eq_getElem?_getD, List.getElem?_eq_getElem h]; rfl
def RlL (w : World) (A : Option Addr) (n c : Nat) (l : List Rl) : Prop := Wd 3 encRl w w.heap.size A n c l
def SyL (w : World) (A : Option Addr) (n c : Nat) (l : List Sy) : Prop := Wd 5 encSy w w.heap.size A n c l
theorem RlL.at_ {w : World} {A : Option Addr} {n c : Nat} {l : List Rl} (h : RlL w A n c l) {i : Nat} (hi : i < n) :
  ∃ ad, A = some ad ∧ ad.block < w.heap.size ∧ w.cell? (ad.add (i * 3)) = some (.int .i64 (rlAt l i).1) ∧ w.cell? ⟨(ad.add (i * 3)).block, (ad.add (i * 3)).off + 1, none⟩ = some (.int .i64 (rlAt l i).2.1) ∧ w.cell? ⟨(ad.add (i * 3)).block, (ad.add (i * 3)).off + 2, none⟩ = some (.bool (rlAt l i).2.2) := by
 obtain ⟨ad, e, hb, hc⟩ := h.2.2.2.2 i _ (rlAt_some (by rw [h.1]; exact hi))
 have h0 := hc 0 _ rfl
 have h1 := hc 1 _ rfl
 have h2 := hc 2 _ rfl
 rw [add_field _ 1 (by omega)] at h1
 rw [add_field _ 2 (by omega)] at h2
 exact ⟨ad, e, hb, h0, h1, h2⟩
theorem SyL.at_ {w : World} {A : Option Addr} {n c : Nat} {l : List Sy} (h : SyL w A n c l) {i : Nat} (hi : i < n) :
  ∃ ad, A = some ad ∧ ad.block < w.heap.size ∧ w.cell? (ad.add (i * 5)) = some (.string (syAt l i).1) ∧ w.cell? ⟨(ad.add (i * 5)).block, (ad.add (i * 5)).off + 1, none⟩ = some (.bool (syAt l i).2.1) ∧ w.cell? ⟨(ad.add (i * 5)).block, (ad.add (i * 5)).off + 2, none⟩ = some (.int .i64 (syAt l i).2.2.1) ∧ w.cell? ⟨(ad.add (i * 5)).block, (ad.add (i * 5)).off + 3, none⟩ = some (.int .i64 (syAt l i).2.2.2.1) ∧ w.cell? ⟨(ad.add (i * 5)).block, (ad.add (i * 5)).off + 4, none⟩ = some (.int .i64 (syAt l i).2.2.2.2) := by
 obtain ⟨ad, e, hb, hc⟩ := h.2.2.2.2 i _ (syAt_some (by rw [h.1]; exact hi))
 have h0 := hc 0 _ rfl
 have h1 := hc 1 _ rfl
 have h2 := hc 2 _ rfl
 have h3 := hc 3 _ rfl
 have h4 := hc 4 _ rfl
 rw [add_field _ 1 (by omega)] at h1
 rw [add_field _ 2 (by omega)] at h2
 rw [add_field _ 3 (by omega)] at h3
 rw [add_field _ 4 (by omega)] at h4
 exact ⟨ad, e, hb, h0, h1, h2, h3, h4⟩
theorem RlL.on {w w' : World} {A : Option Addr} {n c : Nat} {l : List Rl} (h : RlL w A n c l) (hb : Below w.heap.size w w') : RlL w' A n c l := (Wd.below h hb).more hb.size
theorem SyL.on {w w' : World} {A : Option Addr} {n c : Nat} {l : List Sy} (h : SyL w A n c l) (hb : Below w.heap.size w w') : SyL w' A n c l := (Wd.below h hb).more hb.size
theorem iw_cell {w : World} {A : Option Addr} {n c : Nat} {l : List Int} (h : IW w (.slice A n c) l) (hn : l.length = n) {i : Nat} (hi : i < n) : ∃ ad, A = some ad ∧ ad.block < w.heap.size ∧ w.cell? (ad.add i) = some (.int .i64 (el l i)) := by
 subst hn
 rcases ints_row h with ⟨rfl, _⟩ | ⟨ad, e, hb, hc⟩
 ·simp at hi
 ·exact ⟨ad, e, hb, hc i hi⟩
theorem blk3 {w : World} {g : Nat} {t : TypeId} {x0 x1 x2 : Value} (h : Blk w g t #[x0, x1, x2]) : w.cell? ⟨g, 0, none⟩ = some x0 ∧ w.cell? ⟨g, 1, none⟩ = some x1 ∧ w.cell? ⟨g, 2, none⟩ = some x2 := ⟨h.cell 0, h.cell 1, h.cell 2⟩
theorem drew_below (W : World) : Below W.heap.size W W.drew := ⟨rfl, rfl, rfl, Nat.le_refl _, fun _ _ => rfl⟩
end Go.Proofs.YtdaimeaofgbfpaaGreat.By
namespace Go.Proofs.YtdaimeaofgbfpaaGreat.By
open Go.RowKit
def nms : List (List UInt8) := [[], [110, 111, 112], [115, 101, 116], [109, 111, 118, 101], [97, 100, 100], [115, 117, 98], [109, 117, 108], [100, 105, 118], [109, 111, 100], [108, 101, 115, 115], [115, 97, 109, 101], [106, 117, 109, 112], [122, 101, 114, 111], [105, 110], [111, 117, 116], [108, 111, 97, 100], [115, 116, 111, 114, 101], [102, 117, 110, 99], [112, 105, 99, 107], [99, 97, 108, 108], [118, 105, 97], [100, 101, 102, 101, 114], [112, 97, 110, 105, 99], [114, 101, 99, 111, 118, 101, 114], [114, 101, 116, 117, 114, 110], [99, 104, 101, 99, 107], [101, 110, 116, 101, 114], [98, 111, 116, 116, 111, 109], [100, 114, 105, 118, 101, 114]]
def shs : List (List UInt8) := [[], [45, 45, 45, 45], [119, 45, 45, 110], [119, 114, 45, 45], [119, 114, 114, 45], [119, 114, 114, 45], [119, 114, 114, 45], [119, 114, 114, 45], [119, 114, 114, 45], [119, 114, 114, 45], [119, 114, 114, 45], [45, 45, 45, 116], [114, 45, 45, 116], [119, 45, 45, 45], [114, 45, 45, 45], [119, 114, 45, 45], [114, 114, 45, 45], [103, 45, 45, 45], [103, 114, 45, 45], [99, 45, 45, 45], [99, 102, 107, 45], [100, 45, 45, 45], [114, 45, 45, 45], [119, 119, 45, 45], [118, 45, 45, 45]]
def nmB (i : Nat) : ByteArray := ⟨(nms.getD i []).toArray⟩
def shB (i : Nat) : ByteArray := ⟨(shs.getD i []).toArray⟩
def nmV (n : Int) : ByteArray := if 1 ≤ n ∧ n ≤ 28 then nmB n.toNat else ⟨#[]⟩
def shV (n : Int) : ByteArray := if 1 ≤ n ∧ n ≤ 24 then shB n.toNat else ⟨#[]⟩
def ownV (n : Int) : Bool := decide (1 ≤ n ∧ n ≤ 24)
def ndV (n : Int) : Int := if n = 19 then 1 else if n = 17 then 2 else if n = 15 ∨ n = 16 then 3 else if n = 18 then 4 else if n = 21 then 5 else 0
def enV (n : Int) : Bool := decide (n = 11 ∨ n = 22 ∨ n = 24)
theorem all28 (n : Int) : n < 1 ∨ 28 < n ∨ n = 1 ∨ n = 2 ∨ n = 3 ∨ n = 4 ∨ n = 5 ∨ n = 6 ∨ n = 7 ∨ n = 8 ∨ n = 9 ∨ n = 10 ∨ n = 11 ∨ n = 12 ∨ n = 13 ∨ n = 14 ∨ n = 15 ∨ n = 16 ∨ n = 17 ∨ n = 18 ∨ n = 19 ∨ n = 20 ∨ n = 21 ∨ n = 22 ∨ n = 23 ∨ n = 24 ∨ n = 25 ∨ n = 26 ∨ n = 27 ∨ n = 28 := by omega
theorem rown_any (n : Int) (w : World) : Calls Tryz.prog 208 #[.int .i64 n] w fun e w' => e = .returned (.bool (ownV n)) ∧ w = w' := by
 have hb : (decide (1 ≤ n) = false ∧ ownV n = false) ∨ (decide (1 ≤ n) = true ∧ decide (n ≤ 24) = false ∧ ownV n = false) ∨ (decide (1 ≤ n) = true ∧ decide (n ≤ 24) = true ∧ ownV n = true) := by
  unfold ownV
  by_cases h1 : 1 ≤ n <;> by_cases h2 : n ≤ 24 <;> simp [h1, h2]
 rcases hb with ⟨h1, h2⟩ | ⟨h1, h3, h2⟩ | ⟨h1, h3, h2⟩
 all_goals rw [h2]
 all_goals clear h2
 all_goals
  go_enter Tryz.func208, Tryz.ntmps208
  go_wp2
  all_goals go_ret
  all_goals exact ⟨rfl, rfl⟩
def nmA : Array Value := #[.string ⟨#[110, 111, 112]⟩, .string ⟨#[115, 101, 116]⟩, .string ⟨#[109, 111, 118, 101]⟩, .string ⟨#[97, 100, 100]⟩, .string ⟨#[115, 117, 98]⟩, .string ⟨#[109, 117, 108]⟩, .string ⟨#[100, 105, 118]⟩, .string ⟨#[109, 111, 100]⟩, .string ⟨#[108, 101, 115, 115]⟩, .string ⟨#[115, 97, 109, 101]⟩, .string ⟨#[106, 117, 109, 112]⟩, .string ⟨#[122, 101, 114, 111]⟩, .string ⟨#[105, 110]⟩, .string ⟨#[111, 117, 116]⟩, .string ⟨#[108, 111, 97, 100]⟩, .string ⟨#[115, 116, 111, 114, 101]⟩, .string ⟨#[102, 117, 110, 99]⟩, .string ⟨#[112, 105, 99, 107]⟩, .string ⟨#[99, 97, 108, 108]⟩, .string ⟨#[118, 105, 97]⟩, .string ⟨#[100, 101, 102, 101, 114]⟩, .string ⟨#[112, 97, 110, 105, 99]⟩, .string ⟨#[114, 101, 99, 111, 118, 101, 114]⟩, .string ⟨#[114, 101, 116, 117, 114, 110]⟩, .string ⟨#[99, 104, 101, 99, 107]⟩, .string ⟨#[101, 110, 116, 101, 114]⟩, .string ⟨#[98, 111, 116, 116, 111, 109]⟩, .string ⟨#[100, 114, 105, 118, 101, 114]⟩]
theorem rnames_any (w : World) : Calls Tryz.prog 189 #[] w fun e w' => e = .returned (.slice (some ⟨w.heap.size, 0, none⟩) 28 28) ∧ w' = w.alloc (.cells nmA 9) := by
 go_enter Tryz.func189, Tryz.ntmps189
 go_wp2
 go_ret
 exact ⟨rfl, rfl⟩
theorem nmA_at (i : Nat) (h : i < 28) : nmA[i]? = some (.string (nmB (i + 1))) := by
 have : i = 0 ∨ i = 1 ∨ i = 2 ∨ i = 3 ∨ i = 4 ∨ i = 5 ∨ i = 6 ∨ i = 7 ∨ i = 8 ∨ i = 9 ∨ i = 10 ∨ i = 11 ∨ i = 12 ∨ i = 13 ∨ i = 14 ∨ i = 15 ∨ i = 16 ∨ i = 17 ∨ i = 18 ∨ i = 19 ∨ i = 20 ∨ i = 21 ∨ i = 22 ∨ i = 23 ∨ i = 24 ∨ i = 25 ∨ i = 26 ∨ i = 27 := by omega
 rcases this with rfl | rfl | rfl | rfl | rfl | rfl | rfl | rfl | rfl | rfl | rfl | rfl | rfl | rfl | rfl | rfl | rfl | rfl | rfl | rfl | rfl | rfl | rfl | rfl | rfl | rfl | rfl | rfl
 all_goals rfl
theorem rname_any (n : Int) (hlo : -9223372036854775808 ≤ n) (hhi : n ≤ 9223372036854775807) (w : World) :
  Calls Tryz.prog 162 #[.int .i64 n] w fun e w' => e = .returned (.string (nmV n)) ∧ Below w.heap.size w w' := by
 have HN := Hd rnames_any
 have hb : (decide (n < 1) = true ∧ nmV n = ⟨#[]⟩) ∨ (decide (n < 1) = false ∧ decide (28 < n) = true ∧ nmV n = ⟨#[]⟩) ∨ (0 ≤ n - 1 ∧ n - 1 < 28 ∧ nmV n = nmB n.toNat) := by
  unfold nmV
  by_cases h1 : n < 1
  ·left; exact ⟨by simpa using h1, by rw [if_neg (by omega)]⟩
  ·by_cases h2 : 28 < n
   ·right; left; exact ⟨by simpa using h1, by simpa using h2, by rw [if_neg (by omega)]⟩
   ·right; right; exact ⟨by omega, by omega, by rw [if_pos (by omega)]⟩
 rcases hb with ⟨h1, h2⟩ | ⟨h1, h3, h2⟩ | ⟨h1, h3, h2⟩
 all_goals rw [h2]
 all_goals clear h2
 focus
  clear hlo hhi
 rotate_left
 focus
  clear hlo hhi
 rotate_left
 focus
  have hd : decide (n < 1) = false := by simp; omega
  have hd2 : decide (28 < n) = false := by simp; omega
  have hc : (w.alloc (.cells nmA 9)).cell? ⟨w.heap.size, n.toNat - 1, none⟩ = some (.string (nmB n.toNat)) := by
   rw [cell_of_row _ w.heap.size _ nmA 9 (0, 0) (heap_alloc_new w _), nmA_at _ (by omega)]
   congr 3
   omega
 rotate_left
 all_goals
  go_enter Tryz.func162, Tryz.ntmps162
  go_wp2_with (go_at_call 189; refine (HN.out _).mono ?_; rintro e w' ⟨rfl, rfl⟩)
  all_goals go_ret
  all_goals exact ⟨rfl, (Below.refl _ _).alloc (Nat.le_refl _) _⟩
set_option maxHeartbeats 4000000 in
theorem rshape_any (n : Int) (hlo : -9223372036854775808 ≤ n) (hhi : n ≤ 9223372036854775807) (w : World) :
  Calls Tryz.prog 184 #[.int .i64 n] w fun e w' => e = .returned (.string (shV n)) ∧ Below w.heap.size w w' := by
 rcases all28 n with h | h | rfl | rfl | rfl | rfl | rfl | rfl | rfl | rfl | rfl | rfl | rfl | rfl | rfl | rfl | rfl | rfl | rfl | rfl | rfl | rfl | rfl | rfl | rfl | rfl | rfl | rfl | rfl | rfl
 ·have hx : nmV n = ⟨#[]⟩ ∧ shV n = ⟨#[]⟩ := by
   unfold nmV shV
   refine ⟨by rw [if_neg (by omega)], ?_⟩
   first | (rw [if_neg (by omega)]; done) | (repeat' split) | (exact decide_eq_false (by omega))
   all_goals first | rfl | omega
  rw [hx.2]
  have HN := Hd (rname_any n hlo hhi)
  rw [hx.1] at HN
  have k1 : decide (4 ≤ n) = false := by simp; omega
  clear hx hlo hhi
  go_enter Tryz.func184, Tryz.ntmps184
  go_wp2_with (go_at_call 162; refine (HN.out _).mono ?_; rintro e w1 ⟨rfl, hb⟩)
  all_goals go_ret
  all_goals exact ⟨rfl, hb⟩
 ·have hx : nmV n = ⟨#[]⟩ ∧ shV n = ⟨#[]⟩ := by
   unfold nmV shV
   refine ⟨by rw [if_neg (by omega)], ?_⟩
   first | (rw [if_neg (by omega)]; done) | (repeat' split) | (exact decide_eq_false (by omega))
   all_goals first | rfl | omega
  rw [hx.2]
  have HN := Hd (rname_any n hlo hhi)
  rw [hx.1] at HN
  have k1 : decide (4 ≤ n) = true := by simp; omega
  have k2 : decide (n ≤ 10) = false := by simp; omega
  clear hx hlo hhi
  go_enter Tryz.func184, Tryz.ntmps184
  go_wp2_with (go_at_call 162; refine (HN.out _).mono ?_; rintro e w1 ⟨rfl, hb⟩)
  all_goals go_ret
  all_goals exact ⟨rfl, hb⟩
 ·have hx : nmV 1 = ⟨#[110, 111, 112]⟩ := rfl
  have HN := Hd (rname_any 1 (by omega) (by omega))
  rw [hx] at HN
  clear hx
  go_enter Tryz.func184, Tryz.ntmps184
  go_wp2_with (go_at_call 162; refine (HN.out _).mono ?_; rintro e w1 ⟨rfl, hb⟩)
  all_goals go_ret
  all_goals exact ⟨rfl, hb⟩
 ·have hx : nmV 2 = ⟨#[115, 101, 116]⟩ := rfl
  have HN := Hd (rname_any 2 (by omega) (by omega))
  rw [hx] at HN
  clear hx
  go_enter Tryz.func184, Tryz.ntmps184
  go_wp2_with (go_at_call 162; refine (HN.out _).mono ?_; rintro e w1 ⟨rfl, hb⟩)
  all_goals go_ret
  all_goals exact ⟨rfl, hb⟩
 ·have hx : nmV 3 = ⟨#[109, 111, 118, 101]⟩ := rfl
  have HN := Hd (rname_any 3 (by omega) (by omega))
  rw [hx] at HN
  clear hx
  go_enter Tryz.func184, Tryz.ntmps184
  go_wp2_with (go_at_call 162; refine (HN.out _).mono ?_; rintro e w1 ⟨rfl, hb⟩)
  all_goals go_ret
  all_goals exact ⟨rfl, hb⟩
 ·go_enter Tryz.func184, Tryz.ntmps184
  go_wp2
  all_goals go_ret
  all_goals exact ⟨rfl, Below.refl _ _⟩
 ·go_enter Tryz.func184, Tryz.ntmps184
  go_wp2
  all_goals go_ret
  all_goals exact ⟨rfl, Below.refl _ _⟩
 ·go_enter Tryz.func184, Tryz.ntmps184
  go_wp2
  all_goals go_ret
  all_goals exact ⟨rfl, Below.refl _ _⟩
 ·go_enter Tryz.func184, Tryz.ntmps184
  go_wp2
  all_goals go_ret
  all_goals exact ⟨rfl, Below.refl _ _⟩
 ·go_enter Tryz.func184, Tryz.ntmps184
  go_wp2
  all_goals go_ret
  all_goals exact ⟨rfl, Below.refl _ _⟩
 ·go_enter Tryz.func184, Tryz.ntmps184
  go_wp2
  all_goals go_ret
  all_goals exact ⟨rfl, Below.refl _ _⟩
 ·go_enter Tryz.func184, Tryz.ntmps184
  go_wp2
  all_goals go_ret
  all_goals exact ⟨rfl, Below.refl _ _⟩
 focus
  have hx : nmV 11 = ⟨#[106, 117, 109, 112]⟩ := rfl
  have HN := Hd (rname_any 11 (by omega) (by omega))
 rotate_left
 focus
  have hx : nmV 12 = ⟨#[122, 101, 114, 111]⟩ := rfl
  have HN := Hd (rname_any 12 (by omega) (by omega))
 rotate_left
 focus
  have hx : nmV 13 = ⟨#[105, 110]⟩ := rfl
  have HN := Hd (rname_any 13 (by omega) (by omega))
 rotate_left
 focus
  have hx : nmV 14 = ⟨#[111, 117, 116]⟩ := rfl
  have HN := Hd (rname_any 14 (by omega) (by omega))
 rotate_left
 focus
  have hx : nmV 15 = ⟨#[108, 111, 97, 100]⟩ := rfl
  have HN := Hd (rname_any 15 (by omega) (by omega))
 rotate_left
 focus
  have hx : nmV 16 = ⟨#[115, 116, 111, 114, 101]⟩ := rfl
  have HN := Hd (rname_any 16 (by omega) (by omega))
 rotate_left
 focus
  have hx : nmV 17 = ⟨#[102, 117, 110, 99]⟩ := rfl
  have HN := Hd (rname_any 17 (by omega) (by omega))
 rotate_left
 focus
  have hx : nmV 18 = ⟨#[112, 105, 99, 107]⟩ := rfl
  have HN := Hd (rname_any 18 (by omega) (by omega))
 rotate_left
 focus
  have hx : nmV 19 = ⟨#[99, 97, 108, 108]⟩ := rfl
  have HN := Hd (rname_any 19 (by omega) (by omega))
 rotate_left
 focus
  have hx : nmV 20 = ⟨#[118, 105, 97]⟩ := rfl
  have HN := Hd (rname_any 20 (by omega) (by omega))
 rotate_left
 focus
  have hx : nmV 21 = ⟨#[100, 101, 102, 101, 114]⟩ := rfl
  have HN := Hd (rname_any 21 (by omega) (by omega))
 rotate_left
 focus
  have hx : nmV 22 = ⟨#[112, 97, 110, 105, 99]⟩ := rfl
  have HN := Hd (rname_any 22 (by omega) (by omega))
 rotate_left
 focus
  have hx : nmV 23 = ⟨#[114, 101, 99, 111, 118, 101, 114]⟩ := rfl
  have HN := Hd (rname_any 23 (by omega) (by omega))
 rotate_left
 focus
  have hx : nmV 24 = ⟨#[114, 101, 116, 117, 114, 110]⟩ := rfl
  have HN := Hd (rname_any 24 (by omega) (by omega))
 rotate_left
 focus
  have hx : nmV 25 = ⟨#[99, 104, 101, 99, 107]⟩ := rfl
  have HN := Hd (rname_any 25 (by omega) (by omega))
 rotate_left
 focus
  have hx : nmV 26 = ⟨#[101, 110, 116, 101, 114]⟩ := rfl
  have HN := Hd (rname_any 26 (by omega) (by omega))
 rotate_left
 focus
  have hx : nmV 27 = ⟨#[98, 111, 116, 116, 111, 109]⟩ := rfl
  have HN := Hd (rname_any 27 (by omega) (by omega))
 rotate_left
 focus
  have hx : nmV 28 = ⟨#[100, 114, 105, 118, 101, 114]⟩ := rfl
  have HN := Hd (rname_any 28 (by omega) (by omega))
 rotate_left
 all_goals
  rw [hx] at HN
  clear hx
  go_enter Tryz.func184, Tryz.ntmps184
  go_wp2_with (go_at_call 162; refine (HN.out _).mono ?_; rintro e w1 ⟨rfl, hb⟩)
  all_goals go_ret
  all_goals exact ⟨rfl, hb⟩
set_option maxHeartbeats 4000000 in
theorem rneed_any (n : Int) (hlo : -9223372036854775808 ≤ n) (hhi : n ≤ 9223372036854775807) (w : World) :
  Calls Tryz.prog 130 #[.int .i64 n] w fun e w' => e = .returned (.int .i64 (ndV n)) ∧ Below w.heap.size w w' := by
 rcases all28 n with h | h | rfl | rfl | rfl | rfl | rfl | rfl | rfl | rfl | rfl | rfl | rfl | rfl | rfl | rfl | rfl | rfl | rfl | rfl | rfl | rfl | rfl | rfl | rfl | rfl | rfl | rfl | rfl | rfl
 ·have hx : nmV n = ⟨#[]⟩ ∧ ndV n = 0 := by
   unfold nmV ndV
   refine ⟨by rw [if_neg (by omega)], ?_⟩
   first | (rw [if_neg (by omega)]; done) | (repeat' split) | (exact decide_eq_false (by omega))
   all_goals first | rfl | omega
  rw [hx.2]
  have HN := Hd (rname_any n hlo hhi)
  rw [hx.1] at HN
  clear hx hlo hhi
  go_enter Tryz.func130, Tryz.ntmps130
  go_wp2_with (go_at_call 162; refine (HN.out _).mono ?_; rintro e w1 ⟨rfl, hb⟩)
  all_goals go_ret
  all_goals exact ⟨rfl, hb⟩
 ·have hx : nmV n = ⟨#[]⟩ ∧ ndV n = 0 := by
   unfold nmV ndV
   refine ⟨by rw [if_neg (by omega)], ?_⟩
   first | (rw [if_neg (by omega)]; done) | (repeat' split) | (exact decide_eq_false (by omega))
   all_goals first | rfl | omega
  rw [hx.2]
  have HN := Hd (rname_any n hlo hhi)
  rw [hx.1] at HN
  clear hx hlo hhi
  go_enter Tryz.func130, Tryz.ntmps130
  go_wp2_with (go_at_call 162; refine (HN.out _).mono ?_; rintro e w1 ⟨rfl, hb⟩)
  all_goals go_ret
  all_goals exact ⟨rfl, hb⟩
 focus
  have hx : nmV 1 = ⟨#[110, 111, 112]⟩ := rfl
  have HN := Hd (rname_any 1 (by omega) (by omega))
 rotate_left
 focus
  have hx : nmV 2 = ⟨#[115, 101, 116]⟩ := rfl
  have HN := Hd (rname_any 2 (by omega) (by omega))
 rotate_left
 focus
  have hx : nmV 3 = ⟨#[109, 111, 118, 101]⟩ := rfl
  have HN := Hd (rname_any 3 (by omega) (by omega))
 rotate_left
 focus
  have hx : nmV 4 = ⟨#[97, 100, 100]⟩ := rfl
  have HN := Hd (rname_any 4 (by omega) (by omega))
 rotate_left
 focus
  have hx : nmV 5 = ⟨#[115, 117, 98]⟩ := rfl
  have HN := Hd (rname_any 5 (by omega) (by omega))
 rotate_left
 focus
  have hx : nmV 6 = ⟨#[109, 117, 108]⟩ := rfl
  have HN := Hd (rname_any 6 (by omega) (by omega))
 rotate_left
 focus
  have hx : nmV 7 = ⟨#[100, 105, 118]⟩ := rfl
  have HN := Hd (rname_any 7 (by omega) (by omega))
 rotate_left
 focus
  have hx : nmV 8 = ⟨#[109, 111, 100]⟩ := rfl
  have HN := Hd (rname_any 8 (by omega) (by omega))
 rotate_left
 focus
  have hx : nmV 9 = ⟨#[108, 101, 115, 115]⟩ := rfl
  have HN := Hd (rname_any 9 (by omega) (by omega))
 rotate_left
 focus
  have hx : nmV 10 = ⟨#[115, 97, 109, 101]⟩ := rfl
  have HN := Hd (rname_any 10 (by omega) (by omega))
 rotate_left
 focus
  have hx : nmV 11 = ⟨#[106, 117, 109, 112]⟩ := rfl
  have HN := Hd (rname_any 11 (by omega) (by omega))
 rotate_left
 focus
  have hx : nmV 12 = ⟨#[122, 101, 114, 111]⟩ := rfl
  have HN := Hd (rname_any 12 (by omega) (by omega))
 rotate_left
 focus
  have hx : nmV 13 = ⟨#[105, 110]⟩ := rfl
  have HN := Hd (rname_any 13 (by omega) (by omega))
 rotate_left
 focus
  have hx : nmV 14 = ⟨#[111, 117, 116]⟩ := rfl
  have HN := Hd (rname_any 14 (by omega) (by omega))
 rotate_left
 focus
  have hx : nmV 15 = ⟨#[108, 111, 97, 100]⟩ := rfl
  have HN := Hd (rname_any 15 (by omega) (by omega))
 rotate_left
 focus
  have hx : nmV 16 = ⟨#[115, 116, 111, 114, 101]⟩ := rfl
  have HN := Hd (rname_any 16 (by omega) (by omega))
 rotate_left
 focus
  have hx : nmV 17 = ⟨#[102, 117, 110, 99]⟩ := rfl
  have HN := Hd (rname_any 17 (by omega) (by omega))
 rotate_left
 focus
  have hx : nmV 18 = ⟨#[112, 105, 99, 107]⟩ := rfl
  have HN := Hd (rname_any 18 (by omega) (by omega))
 rotate_left
 focus
  have hx : nmV 19 = ⟨#[99, 97, 108, 108]⟩ := rfl
  have HN := Hd (rname_any 19 (by omega) (by omega))
 rotate_left
 focus
  have hx : nmV 20 = ⟨#[118, 105, 97]⟩ := rfl
  have HN := Hd (rname_any 20 (by omega) (by omega))
 rotate_left
 focus
  have hx : nmV 21 = ⟨#[100, 101, 102, 101, 114]⟩ := rfl
  have HN := Hd (rname_any 21 (by omega) (by omega))
 rotate_left
 focus
  have hx : nmV 22 = ⟨#[112, 97, 110, 105, 99]⟩ := rfl
  have HN := Hd (rname_any 22 (by omega) (by omega))
 rotate_left
 focus
  have hx : nmV 23 = ⟨#[114, 101, 99, 111, 118, 101, 114]⟩ := rfl
  have HN := Hd (rname_any 23 (by omega) (by omega))
 rotate_left
 focus
  have hx : nmV 24 = ⟨#[114, 101, 116, 117, 114, 110]⟩ := rfl
  have HN := Hd (rname_any 24 (by omega) (by omega))
 rotate_left
 focus
  have hx : nmV 25 = ⟨#[99, 104, 101, 99, 107]⟩ := rfl
  have HN := Hd (rname_any 25 (by omega) (by omega))
 rotate_left
 focus
  have hx : nmV 26 = ⟨#[101, 110, 116, 101, 114]⟩ := rfl
  have HN := Hd (rname_any 26 (by omega) (by omega))
 rotate_left
 focus
  have hx : nmV 27 = ⟨#[98, 111, 116, 116, 111, 109]⟩ := rfl
  have HN := Hd (rname_any 27 (by omega) (by omega))
 rotate_left
 focus
  have hx : nmV 28 = ⟨#[100, 114, 105, 118, 101, 114]⟩ := rfl
  have HN := Hd (rname_any 28 (by omega) (by omega))
 rotate_left
 all_goals
  rw [hx] at HN
  clear hx
  go_enter Tryz.func130, Tryz.ntmps130
  go_wp2_with (go_at_call 162; refine (HN.out _).mono ?_; rintro e w1 ⟨rfl, hb⟩)
  all_goals go_ret
  all_goals exact ⟨rfl, hb⟩
def fnV (l : List UInt8) : Int := ((nms.findIdx? (· == l)).getD 0 : Nat)
theorem fn_hit (l : List UInt8) (k : Nat) (hk : k < 29) (h : nms.getD k [] = l) : fnV l = k := by
 subst h
 have : k = 0 ∨ k = 1 ∨ k = 2 ∨ k = 3 ∨ k = 4 ∨ k = 5 ∨ k = 6 ∨ k = 7 ∨ k = 8 ∨ k = 9 ∨ k = 10 ∨ k = 11 ∨ k = 12 ∨ k = 13 ∨ k = 14 ∨ k = 15 ∨ k = 16 ∨ k = 17 ∨ k = 18 ∨ k = 19 ∨ k = 20 ∨ k = 21 ∨ k = 22 ∨ k = 23 ∨ k = 24 ∨ k = 25 ∨ k = 26 ∨ k = 27 ∨ k = 28 := by omega
 rcases this with rfl | rfl | rfl | rfl | rfl | rfl | rfl | rfl | rfl | rfl | rfl | rfl | rfl | rfl | rfl | rfl | rfl | rfl | rfl | rfl | rfl | rfl | rfl | rfl | rfl | rfl | rfl | rfl | rfl
 all_goals rfl
end Go.Proofs.YtdaimeaofgbfpaaGreat.By
namespace Go.Proofs.YtdaimeaofgbfpaaGreat.By
open Go.ChangeShapes Go.WideShapes Go.ChangeAt Go.RowKit
open Mem
def insC (o a b c n : Int) : Array Value := #[.int .i64 o, .int .i64 a, .int .i64 b, .int .i64 c, .int .i64 n]
def opdV (a b c n i : Int) : Int := if i = 0 then a else if i = 1 then b else if i = 2 then c else if i = 3 then n else 0
theorem opd_out (a b c n i : Int) (h : i < 0 ∨ 3 < i) : opdV a b c n i = 0 := by
 unfold opdV
 rw [if_neg (by omega), if_neg (by omega), if_neg (by omega), if_neg (by omega)]
theorem Blk.at_ {w : World} {g : Nat} (t : TypeId) (cs : Array Value) (h : w.heap.size = g) : Blk (w.alloc (.cells cs t)) g t cs := by
 subst h
 exact Blk.new w t cs
theorem roperand_any (o a b c n i : Int) (w : World) : Calls Tryz.prog 186 #[.agg #[.int .i64 o, .int .i64 a, .int .i64 b, .int .i64 c, .int .i64 n], .int .i64 i] w fun e w' => e = .returned (.int .i64 (opdV a b c n i)) ∧ Below w.heap.size w w' := by
 by_cases hi : i < 0 ∨ 3 < i
 ·have h0 : (i == 0) = false := by simp; omega
  have h1 : (i == 1) = false := by simp; omega
  have h2 : (i == 2) = false := by simp; omega
  have h3 : (i == 3) = false := by simp; omega
  rw [opd_out a b c n i hi]
  clear hi
  go_enter Tryz.func186, Tryz.ntmps186
  go_wp2
  all_goals go_ret
  all_goals exact ⟨rfl, (Below.refl _ _).alloc (Nat.le_refl _) _⟩
 ·have : i = 0 ∨ i = 1 ∨ i = 2 ∨ i = 3 := by omega
  clear hi
  rcases this with rfl | rfl | rfl | rfl
  all_goals
   go_enter Tryz.func186, Tryz.ntmps186
   go_wp2
   all_goals go_ret
   all_goals exact ⟨rfl, (Below.refl _ _).alloc (Nat.le_refl _) _⟩
theorem inside (n : Int) (h : 1 ≤ n ∧ n ≤ 28) : (nmV n).data.toList ≠ [] ∧ fnV (nmV n).data.toList = n ∧
  ((ownV n = true ∧ ndV n = 0 ∧ ∃ a b c d, shV n = ⟨#[a, b, c, d]⟩) ∨ (ownV n = true ∧ decide (0 < ndV n) = true ∧ ∃ a b c, shV n = ⟨#[a, b, c, 45]⟩) ∨ (ownV n = false ∧ shV n = ⟨#[]⟩ ∧ ndV n = 0)) := by
 have : n = 1 ∨ n = 2 ∨ n = 3 ∨ n = 4 ∨ n = 5 ∨ n = 6 ∨ n = 7 ∨ n = 8 ∨ n = 9 ∨ n = 10 ∨ n = 11 ∨ n = 12 ∨ n = 13 ∨ n = 14 ∨ n = 15 ∨ n = 16 ∨ n = 17 ∨ n = 18 ∨ n = 19 ∨ n = 20 ∨ n = 21 ∨ n = 22 ∨ n = 23 ∨ n = 24 ∨ n = 25 ∨ n = 26 ∨ n = 27 ∨ n = 28 := by omega
 rcases this with rfl | rfl | rfl | rfl | rfl | rfl | rfl | rfl | rfl | rfl | rfl | rfl | rfl | rfl | rfl | rfl | rfl | rfl | rfl | rfl | rfl | rfl | rfl | rfl | rfl | rfl | rfl | rfl
 ·exact ⟨by decide, fn_hit _ 1 (by decide) rfl, .inl ⟨rfl, rfl, _, _, _, _, rfl⟩⟩
 ·exact ⟨by decide, fn_hit _ 2 (by decide) rfl, .inl ⟨rfl, rfl, _, _, _, _, rfl⟩⟩
 ·exact ⟨by decide, fn_hit _ 3 (by decide) rfl, .inl ⟨rfl, rfl, _, _, _, _, rfl⟩⟩
 ·exact ⟨by decide, fn_hit _ 4 (by decide) rfl, .inl ⟨rfl, rfl, _, _, _, _, rfl⟩⟩
 ·exact ⟨by decide, fn_hit _ 5 (by decide) rfl, .inl ⟨rfl, rfl, _, _, _, _, rfl⟩⟩
 ·exact ⟨by decide, fn_hit _ 6 (by decide) rfl, .inl ⟨rfl, rfl, _, _, _, _, rfl⟩⟩
 ·exact ⟨by decide, fn_hit _ 7 (by decide) rfl, .inl ⟨rfl, rfl, _, _, _, _, rfl⟩⟩
 ·exact ⟨by decide, fn_hit _ 8 (by decide) rfl, .inl ⟨rfl, rfl, _, _, _, _, rfl⟩⟩
 ·exact ⟨by decide, fn_hit _ 9 (by decide) rfl, .inl ⟨rfl, rfl, _, _, _, _, rfl⟩⟩
 ·exact ⟨by decide, fn_hit _ 10 (by decide) rfl, .inl ⟨rfl, rfl, _, _, _, _, rfl⟩⟩
 ·exact ⟨by decide, fn_hit _ 11 (by decide) rfl, .inl ⟨rfl, rfl, _, _, _, _, rfl⟩⟩
 ·exact ⟨by decide, fn_hit _ 12 (by decide) rfl, .inl ⟨rfl, rfl, _, _, _, _, rfl⟩⟩
 ·exact ⟨by decide, fn_hit _ 13 (by decide) rfl, .inl ⟨rfl, rfl, _, _, _, _, rfl⟩⟩
 ·exact ⟨by decide, fn_hit _ 14 (by decide) rfl, .inl ⟨rfl, rfl, _, _, _, _, rfl⟩⟩
 ·exact ⟨by decide, fn_hit _ 15 (by decide) rfl, .inr (.inl ⟨rfl, rfl, _, _, _, rfl⟩)⟩
 ·exact ⟨by decide, fn_hit _ 16 (by decide) rfl, .inr (.inl ⟨rfl, rfl, _, _, _, rfl⟩)⟩
 ·exact ⟨by decide, fn_hit _ 17 (by decide) rfl, .inr (.inl ⟨rfl, rfl, _, _, _, rfl⟩)⟩
 ·exact ⟨by decide, fn_hit _ 18 (by decide) rfl, .inr (.inl ⟨rfl, rfl, _, _, _, rfl⟩)⟩
 ·exact ⟨by decide, fn_hit _ 19 (by decide) rfl, .inr (.inl ⟨rfl, rfl, _, _, _, rfl⟩)⟩
 ·exact ⟨by decide, fn_hit _ 20 (by decide) rfl, .inl ⟨rfl, rfl, _, _, _, _, rfl⟩⟩
 ·exact ⟨by decide, fn_hit _ 21 (by decide) rfl, .inr (.inl ⟨rfl, rfl, _, _, _, rfl⟩)⟩
 ·exact ⟨by decide, fn_hit _ 22 (by decide) rfl, .inl ⟨rfl, rfl, _, _, _, _, rfl⟩⟩
 ·exact ⟨by decide, fn_hit _ 23 (by decide) rfl, .inl ⟨rfl, rfl, _, _, _, _, rfl⟩⟩
 ·exact ⟨by decide, fn_hit _ 24 (by decide) rfl, .inl ⟨rfl, rfl, _, _, _, _, rfl⟩⟩
 ·exact ⟨by decide, fn_hit _ 25 (by decide) rfl, .inr (.inr ⟨rfl, rfl, rfl⟩)⟩
 ·exact ⟨by decide, fn_hit _ 26 (by decide) rfl, .inr (.inr ⟨rfl, rfl, rfl⟩)⟩
 ·exact ⟨by decide, fn_hit _ 27 (by decide) rfl, .inr (.inr ⟨rfl, rfl, rfl⟩)⟩
 ·exact ⟨by decide, fn_hit _ 28 (by decide) rfl, .inr (.inr ⟨rfl, rfl, rfl⟩)⟩
theorem outside (n : Int) (h : ¬ (1 ≤ n ∧ n ≤ 28)) : nmV n = ⟨#[]⟩ ∧ shV n = ⟨#[]⟩ ∧ ownV n = false ∧ ndV n = 0 ∧ enV n = false := by
 unfold nmV shV ownV ndV enV
 refine ⟨by rw [if_neg h], by rw [if_neg (by omega)], decide_eq_false (by omega), ?_, decide_eq_false (by omega)⟩
 repeat' split
 all_goals first | rfl | omega
set_option maxHeartbeats 4000000 in
def lstV (k : Nat) : Int := if k = 3 then -2147483648 else 0
def mstV (k : Nat) : Int := if k = 3 then 2147483647 else 255
def inV (a b c n : Int) (k : Nat) : Prop := lstV k ≤ opdV a b c n k ∧ opdV a b c n k ≤ mstV k
def argV (o a b c n : Int) (k : Nat) : Prop := (shV o).data.toList[k]? = some 45 ∧ opdV a b c n k ≠ 0
open Classical in
noncomputable def chV (o a b c n : Int) : Int :=
 if ¬ (1 ≤ o ∧ o ≤ 28) then 8 else if ∀ k, k < 4 → inV a b c n k then (if ∀ k, k < 4 → ¬ argV o a b c n k then 0 else 2) else 9
theorem ch_kind {o a b c n : Int} (h : ¬ (1 ≤ o ∧ o ≤ 28)) : chV o a b c n = 8 := by unfold chV; rw [if_pos h]
theorem ch_range {o a b c n : Int} (h : 1 ≤ o ∧ o ≤ 28) (k : Nat) (hk : k < 4) (hx : ¬ inV a b c n k) : chV o a b c n = 9 := by
 unfold chV; rw [if_neg (by simpa using h), if_neg (fun h => hx (h k hk))]
theorem ch_arg {o a b c n : Int} (h : 1 ≤ o ∧ o ≤ 28) (hin : ∀ k, k < 4 → inV a b c n k) (k : Nat) (hk : k < 4) (hx : argV o a b c n k) : chV o a b c n = 2 := by
 unfold chV; rw [if_neg (by simpa using h), if_pos hin, if_neg (fun h => h k hk hx)]
theorem ch_ok {o a b c n : Int} (h : 1 ≤ o ∧ o ≤ 28) (hin : ∀ k, k < 4 → inV a b c n k) (hx : ∀ k, k < 4 → ¬ argV o a b c n k) : chV o a b c n = 0 := by
 unfold chV; rw [if_neg (by simpa using h), if_pos hin, if_pos hx]
theorem name_ne {o : Int} (h : 1 ≤ o ∧ o ≤ 28) : (ByteArray.toList (nmV o)).isEmpty = false ∧ ¬ ByteArray.toList (nmV o) = [] := by
 have := (inside o h).1
 constructor
 ·rw [ByteArray.toList_eq, List.isEmpty_eq_false_iff]; exact this
 ·rw [ByteArray.toList_eq]; exact this
theorem shape_small (o : Int) : ((shV o).data.toList = [] ∨ (shV o).data.toList.length = 4) ∧ ∀ j (h : j < (shV o).data.toList.length), ((shV o).data.toList[j]).toNat < 128 := by
 unfold shV
 by_cases h : 1 ≤ o ∧ o ≤ 24
 ·rw [if_pos h]
  have h2 : ∀ m, m < 25 → 0 < m → (shB m).data.toList.length = 4 ∧ ∀ j (h : j < (shB m).data.toList.length), ((shB m).data.toList[j]).toNat < 128 := by decide
  exact ⟨.inr (h2 _ (by omega) (by omega)).1, (h2 _ (by omega) (by omega)).2⟩
 ·rw [if_neg h]
  exact ⟨.inl rfl, fun j hj => by simp at hj⟩
end Go.Proofs.YtdaimeaofgbfpaaGreat.By
namespace Go.Proofs.YtdaimeaofgbfpaaGreat.By
open Go.RowKit
open Mem Gm Rf
abbrev Ln := Int × Int
abbrev In5 := Int × Int × Int × Int × Int
def encLn (x : Ln) : List Value := [.int .i64 x.1, .int .i64 x.2]
def encIn (x : In5) : List Value := [.int .i64 x.1, .int .i64 x.2.1, .int .i64 x.2.2.1, .int .i64 x.2.2.2.1, .int .i64 x.2.2.2.2]
def lnAt (l : List Ln) (i : Nat) : Ln := l.getD i (0, 0)
def inAt (l : List In5) (i : Nat) : In5 := l.getD i (0, 0, 0, 0, 0)
theorem lnAt_some {l : List Ln} {i : Nat} (h : i < l.length) : l[i]? = some (lnAt l i) := by unfold lnAt; rw [List.getD_eq_getElem?_getD, List.getElem?_eq_getElem h]; rfl
theorem inAt_some {l : List In5} {i : Nat} (h : i < l.length) : l[i]? = some (inAt l i) := by unfold inAt; rw [List.getD_eq_getElem?_getD, List.getElem?_eq_getElem h]; rfl
def LnL (w : World) (A : Option Addr) (n c : Nat) (l : List Ln) : Prop := Wd 2 encLn w w.heap.size A n c l
def InL (w : World) (A : Option Addr) (n c : Nat) (l : List In5) : Prop := Wd 5 encIn w w.heap.size A n c l
theorem LnL.at_ {w : World} {A : Option Addr} {n c : Nat} {l : List Ln} (h : LnL w A n c l) {i : Nat} (hi : i < n) :
  ∃ ad, A = some ad ∧ ad.block < w.heap.size ∧ w.cell? (ad.add (i * 2)) = some (.int .i64 (lnAt l i).1) ∧ w.cell? ⟨(ad.add (i * 2)).block, (ad.add (i * 2)).off + 1, none⟩ = some (.int .i64 (lnAt l i).2) := by
 obtain ⟨ad, e, hb, hc⟩ := h.2.2.2.2 i _ (lnAt_some (by rw [h.1]; exact hi))
 have h0 := hc 0 _ rfl
 have h1 := hc 1 _ rfl
 rw [add_field _ 1 (by omega)] at h1
 exact ⟨ad, e, hb, h0, h1⟩
theorem InL.at_ {w : World} {A : Option Addr} {n c : Nat} {l : List In5} (h : InL w A n c l) {i : Nat} (hi : i < n) :
  ∃ ad, A = some ad ∧ ad.block < w.heap.size ∧ w.cell? (ad.add (i * 5)) = some (.int .i64 (inAt l i).1) ∧ w.cell? ⟨(ad.add (i * 5)).block, (ad.add (i * 5)).off + 1, none⟩ = some (.int .i64 (inAt l i).2.1) ∧ w.cell? ⟨(ad.add (i * 5)).block, (ad.add (i * 5)).off + 2, none⟩ = some (.int .i64 (inAt l i).2.2.1) ∧ w.cell? ⟨(ad.add (i * 5)).block, (ad.add (i * 5)).off + 3, none⟩ = some (.int .i64 (inAt l i).2.2.2.1) ∧ w.cell? ⟨(ad.add (i * 5)).block, (ad.add (i * 5)).off + 4, none⟩ = some (.int .i64 (inAt l i).2.2.2.2) := by
 obtain ⟨ad, e, hb, hc⟩ := h.2.2.2.2 i _ (inAt_some (by rw [h.1]; exact hi))
 have h0 := hc 0 _ rfl
 have h1 := hc 1 _ rfl
 have h2 := hc 2 _ rfl
 have h3 := hc 3 _ rfl
 have h4 := hc 4 _ rfl
 rw [add_field _ 1 (by omega)] at h1
 rw [add_field _ 2 (by omega)] at h2
 rw [add_field _ 3 (by omega)] at h3
 rw [add_field _ 4 (by omega)] at h4
 exact ⟨ad, e, hb, h0, h1, h2, h3, h4⟩
theorem LnL.on {w w' : World} {A : Option Addr} {n c : Nat} {l : List Ln} (h : LnL w A n c l) (hb : Below w.heap.size w w') : LnL w' A n c l := (Wd.below h hb).more hb.size
theorem InL.on {w w' : World} {A : Option Addr} {n c : Nat} {l : List In5} (h : InL w A n c l) (hb : Below w.heap.size w w') : InL w' A n c l := (Wd.below h hb).more hb.size
structure Fn where
 k : Int
 ks : List Int
 pd : Int
 ns : Bool
 f : Int
 t : Int
 ls : List Ln
 cs : List In5
 rs : List Rl
theorem blk9 {w : World} {g : Nat} {t : TypeId} {x0 x1 x2 x3 x4 x5 x6 x7 x8 : Value} (h : Blk w g t #[x0, x1, x2, x3, x4, x5, x6, x7, x8]) : w.cell? ⟨g, 0, none⟩ = some x0 ∧ w.cell? ⟨g, 1, none⟩ = some x1 ∧ w.cell? ⟨g, 2, none⟩ = some x2 ∧ w.cell? ⟨g, 3, none⟩ = some x3 ∧ w.cell? ⟨g, 4, none⟩ = some x4 ∧ w.cell? ⟨g, 5, none⟩ = some x5 ∧ w.cell? ⟨g, 6, none⟩ = some x6 ∧ w.cell? ⟨g, 7, none⟩ = some x7 ∧ w.cell? ⟨g, 8, none⟩ = some x8 :=
 ⟨h.cell 0, h.cell 1, h.cell 2, h.cell 3, h.cell 4, h.cell 5, h.cell 6, h.cell 7, h.cell 8⟩
structure FnW (w : World) (AK : Option Addr) (nK cK : Nat) (AL : Option Addr) (nL cL : Nat) (AC : Option Addr) (nC cC : Nat) (AR : Option Addr) (nR cR : Nat) (x : Fn) : Prop where
 hk : IW w (.slice AK nK cK) x.ks
 hkl : x.ks.length = nK
 hl : LnL w AL nL cL x.ls
 hc : InL w AC nC cC x.cs
 hr : RlL w AR nR cR x.rs
theorem FnW.on {w w' : World} {AK AL AC AR : Option Addr} {nK cK nL cL nC cC nR cR : Nat} {x : Fn} (h : FnW w AK nK cK AL nL cL AC nC cC AR nR cR x) (hb : Below w.heap.size w w') : FnW w' AK nK cK AL nL cL AC nC cC AR nR cR x :=
 ⟨h.hk.on hb, h.hkl, h.hl.on hb, h.hc.on hb, h.hr.on hb⟩
end Go.Proofs.YtdaimeaofgbfpaaGreat.By
namespace Go.Proofs.YtdaimeaofgbfpaaGreat.Si
open Go.RowKit
def isC (n : Int) : Bool := decide (0 ≤ n ∧ n ≤ 7)
def parV (n : Int) : Int := if 0 ≤ n ∧ n ≤ 7 then n / 2 else 0
def ansV (n : Int) : Bool := decide (0 ≤ n ∧ n ≤ 7 ∧ n % 2 = 1)
def latV (n : Int) : Bool := decide (n = 0 ∨ n = 2)
def clV (n : Int) : Int := if 1 ≤ n ∧ n ≤ 8 then n - 1 else 0
def clB (n : Int) : Bool := decide (1 ≤ n ∧ n ≤ 8)
def kindB (n : Int) : Bool := decide (0 ≤ n ∧ n ≤ 8)
theorem eight (n : Int) : n < 0 ∨ 8 < n ∨ n = 0 ∨ n = 1 ∨ n = 2 ∨ n = 3 ∨ n = 4 ∨ n = 5 ∨ n = 6 ∨ n = 7 ∨ n = 8 := by omega
theorem ris_any (n : Int) (w : World) : Calls Tryz.prog 117 #[.int .i64 n] w fun e w' => e = .returned (.bool (isC n)) ∧ w = w' := by
 rcases eight n with h | h | rfl | rfl | rfl | rfl | rfl | rfl | rfl | rfl | rfl
 ·have hx : isC n = false := by unfold isC; simp; omega
  rw [hx]
  clear hx
  have h1 : ¬ 0 ≤ n := by omega
  have h2 : ¬ 1 ≤ n := by omega
  have h3 : (n == 0) = false := by simp; omega
  have h4 : (n == 2) = false := by simp; omega
  go_enter Tryz.func117, Tryz.ntmps117
  go_wp2
  all_goals go_ret
  all_goals exact ⟨rfl, rfl⟩
 ·have hx : isC n = false := by unfold isC; simp; omega
  rw [hx]
  clear hx
  have h1 : ¬ n < 8 := by omega
  have h2 : ¬ n ≤ 7 := by omega
  have h3 : (n == 0) = false := by simp; omega
  have h4 : (n == 2) = false := by simp; omega
  go_enter Tryz.func117, Tryz.ntmps117
  go_wp2
  all_goals go_ret
  all_goals exact ⟨rfl, rfl⟩
 all_goals
  go_enter Tryz.func117, Tryz.ntmps117
  go_wp2
  all_goals go_ret
  all_goals exact ⟨rfl, rfl⟩
theorem rpar_any (n : Int) (w : World) : Calls Tryz.prog 205 #[.int .i64 n] w fun e w' => e = .returned (.int .i64 (parV n)) ∧ w = w' := by
 rcases eight n with h | h | rfl | rfl | rfl | rfl | rfl | rfl | rfl | rfl | rfl
 ·have hx : parV n = 0 := by unfold parV; simp; omega
  rw [hx]
  clear hx
  have h1 : ¬ 0 ≤ n := by omega
  have h2 : ¬ 1 ≤ n := by omega
  have h3 : (n == 0) = false := by simp; omega
  have h4 : (n == 2) = false := by simp; omega
  go_enter Tryz.func205, Tryz.ntmps205
  go_wp2
  all_goals go_ret
  all_goals exact ⟨rfl, rfl⟩
 ·have hx : parV n = 0 := by unfold parV; simp; omega
  rw [hx]
  clear hx
  have h1 : ¬ n < 8 := by omega
  have h2 : ¬ n ≤ 7 := by omega
  have h3 : (n == 0) = false := by simp; omega
  have h4 : (n == 2) = false := by simp; omega
  go_enter Tryz.func205, Tryz.ntmps205
  go_wp2
  all_goals go_ret
  all_goals exact ⟨rfl, rfl⟩
 all_goals
  go_enter Tryz.func205, Tryz.ntmps205
  go_wp2
  all_goals go_ret
  all_goals exact ⟨rfl, rfl⟩
theorem rans_any (n : Int) (w : World) : Calls Tryz.prog 214 #[.int .i64 n] w fun e w' => e = .returned (.bool (ansV n)) ∧ w = w' := by
 rcases eight n with h | h | rfl | rfl | rfl | rfl | rfl | rfl | rfl | rfl | rfl
 ·have hx : ansV n = false := by unfold ansV; simp; omega
  rw [hx]
  clear hx
  have h1 : ¬ 0 ≤ n := by omega
  have h2 : ¬ 1 ≤ n := by omega
  have h3 : (n == 0) = false := by simp; omega
  have h4 : (n == 2) = false := by simp; omega
  go_enter Tryz.func214, Tryz.ntmps214
  go_wp2
  all_goals go_ret
  all_goals exact ⟨rfl, rfl⟩
 ·have hx : ansV n = false := by unfold ansV; simp; omega
  rw [hx]
  clear hx
  have h1 : ¬ n < 8 := by omega
  have h2 : ¬ n ≤ 7 := by omega
  have h3 : (n == 0) = false := by simp; omega
  have h4 : (n == 2) = false := by simp; omega
  go_enter Tryz.func214, Tryz.ntmps214
  go_wp2
  all_goals go_ret
  all_goals exact ⟨rfl, rfl⟩
 all_goals
  go_enter Tryz.func214, Tryz.ntmps214
  go_wp2
  all_goals go_ret
  all_goals exact ⟨rfl, rfl⟩
theorem rlat_any (n : Int) (w : World) : Calls Tryz.prog 183 #[.int .i64 n] w fun e w' => e = .returned (.bool (latV n)) ∧ w = w' := by
 rcases eight n with h | h | rfl | rfl | rfl | rfl | rfl | rfl | rfl | rfl | rfl
 ·have hx : latV n = false := by unfold latV; simp; omega
  rw [hx]
  clear hx
  have h1 : ¬ 0 ≤ n := by omega
  have h2 : ¬ 1 ≤ n := by omega
  have h3 : (n == 0) = false := by simp; omega
  have h4 : (n == 2) = false := by simp; omega
  go_enter Tryz.func183, Tryz.ntmps183
  go_wp2
  all_goals go_ret
  all_goals exact ⟨rfl, rfl⟩
 ·have hx : latV n = false := by unfold latV; simp; omega
  rw [hx]
  clear hx
  have h1 : ¬ n < 8 := by omega
  have h2 : ¬ n ≤ 7 := by omega
  have h3 : (n == 0) = false := by simp; omega
  have h4 : (n == 2) = false := by simp; omega
  go_enter Tryz.func183, Tryz.ntmps183
  go_wp2
  all_goals go_ret
  all_goals exact ⟨rfl, rfl⟩
 all_goals
  go_enter Tryz.func183, Tryz.ntmps183
  go_wp2
  all_goals go_ret
  all_goals exact ⟨rfl, rfl⟩
theorem rcl_any (n : Int) (hlo : -9223372036854775808 ≤ n) (hhi : n ≤ 9223372036854775807) (w : World) : Calls Tryz.prog 154 #[.int .i64 n] w fun e w' => e = .returned (.tuple #[.int .i64 (clV n), .bool (clB n)]) ∧ w = w' := by
 rcases eight n with h | h | rfl | rfl | rfl | rfl | rfl | rfl | rfl | rfl | rfl
 ·have hx : clV n = 0 ∧ clB n = false := by unfold clV clB; refine ⟨?_, ?_⟩ <;> (simp; omega)
  rw [hx.1, hx.2]
  clear hx
  by_cases hm : n = -9223372036854775808
  focus
   subst hm
   have hw : ¬ wrap64 (-9223372036854775809) ≤ 7 := by decide +kernel
   have hw0 : 0 ≤ wrap64 (-9223372036854775809) := by decide +kernel
  rotate_left
  focus
   have h1 : ¬ 0 ≤ n := by omega
   have h2 : ¬ 0 ≤ n - 1 := by omega
   have h3 : (n == 0) = false := by simp; omega
   have h4 : -9223372036854775808 ≤ n - 1 := by omega
   clear hm
  rotate_left
  all_goals
   go_enter Tryz.func154, Tryz.ntmps154
   go_wp2
   all_goals go_ret2
   all_goals exact ⟨rfl, rfl⟩
 ·have hx : clV n = 0 ∧ clB n = false := by unfold clV clB; refine ⟨?_, ?_⟩ <;> (simp; omega)
  rw [hx.1, hx.2]
  clear hx
  have h1 : ¬ n < 8 := by omega
  have h2 : ¬ n ≤ 7 := by omega
  have h5 : ¬ n < 9 := by omega
  have h6 : ¬ n - 1 ≤ 7 := by omega
  have h3 : (n == 0) = false := by simp; omega
  have h4 : (n == 2) = false := by simp; omega
  go_enter Tryz.func154, Tryz.ntmps154
  go_wp2
  all_goals go_ret2
  all_goals exact ⟨rfl, rfl⟩
 all_goals
  go_enter Tryz.func154, Tryz.ntmps154
  go_wp2
  all_goals go_ret2
  all_goals exact ⟨rfl, rfl⟩
def txs : List (List UInt8) := [[110], [102, 48], [102, 48, 114], [102, 49], [102, 49, 114], [102, 50], [102, 50, 114], [102, 51], [102, 51, 114]]
def txB (i : Nat) : ByteArray := ⟨(txs.getD i []).toArray⟩
def textV (n : Int) : ByteArray := if 0 ≤ n ∧ n ≤ 8 then txB n.toNat else ⟨#[]⟩
theorem conv1 (w : World) (c : UInt8) (x : Int) (h : x = (c.toNat : Int)) :
  (convert 210 9 (.slice (some ⟨w.heap.size, 0, none⟩) 1 1)).run Tryz.prog (w.alloc (.cells #[.int .u8 x] 5)) = .ok (.string ⟨#[c]⟩) (w.alloc (.cells #[.int .u8 x] 5)) := by
 have := run_convert_bytes_back (P := Tryz.prog) (w.alloc (.cells #[.int .u8 x] 5)) 210 9 5 ⟨w.heap.size, 0, none⟩ 1 [c] Tryz.underlying210 Tryz.underlying5 Tryz.underlying9 (fun j hj => by
  obtain rfl : j = 0 := by simpa using hj
  subst h
  simp [Addr.add])
 exact this
theorem dig0 (w : World) : Calls Tryz.prog 155 #[.int .i64 0] w fun e w' => e = .returned (.string ⟨#[48]⟩) ∧ Below w.heap.size w w' := by
 go_enter Tryz.func155, Tryz.ntmps155
 go_wp2
 go_ret
 exact ⟨rfl, Below.refl _ _⟩
theorem dig1 (w : World) : Calls Tryz.prog 155 #[.int .i64 1] w fun e w' => e = .returned (.string ⟨#[49]⟩) ∧ Below w.heap.size w w' := by
 have hc := fun W => conv1 W 49 49 rfl
 go_enter Tryz.func155, Tryz.ntmps155
 go_wp2_with fail
 refine wp_loop_rounds 2 ?_
 repeat (rw [rounds_succ]; go_wp2_with fail)
 go_ret
 exact ⟨rfl, (Below.refl _ _).alloc (Nat.le_refl _) _⟩
theorem dig2 (w : World) : Calls Tryz.prog 155 #[.int .i64 2] w fun e w' => e = .returned (.string ⟨#[50]⟩) ∧ Below w.heap.size w w' := by
 have hc := fun W => conv1 W 50 50 rfl
 go_enter Tryz.func155, Tryz.ntmps155
 go_wp2_with fail
 refine wp_loop_rounds 2 ?_
 repeat (rw [rounds_succ]; go_wp2_with fail)
 go_ret
 exact ⟨rfl, (Below.refl _ _).alloc (Nat.le_refl _) _⟩
theorem dig3 (w : World) : Calls Tryz.prog 155 #[.int .i64 3] w fun e w' => e = .returned (.string ⟨#[51]⟩) ∧ Below w.heap.size w w' := by
 have hc := fun W => conv1 W 51 51 rfl
 go_enter Tryz.func155, Tryz.ntmps155
 go_wp2_with fail
 refine wp_loop_rounds 2 ?_
 repeat (rw [rounds_succ]; go_wp2_with fail)
 go_ret
 exact ⟨rfl, (Below.refl _ _).alloc (Nat.le_refl _) _⟩
theorem rtext_any (n : Int) (hlo : -9223372036854775808 ≤ n) (hhi : n ≤ 9223372036854775807) (w : World) :
  Calls Tryz.prog 118 #[.int .i64 n] w fun e w' => e = .returned (.string (textV n)) ∧ Below w.heap.size w w' := by
 rcases eight n with h | h | rfl | rfl | rfl | rfl | rfl | rfl | rfl | rfl | rfl
 ·have hx : textV n = ⟨#[]⟩ ∧ clV n = 0 ∧ clB n = false := by unfold textV clV clB; rw [if_neg (by omega), if_neg (by omega)]; exact ⟨rfl, rfl, by simp; omega⟩
  rw [hx.1]
  have HC := Hd (rcl_any n hlo hhi w)
  rw [hx.2.1, hx.2.2] at HC
  have h3 : (n == 0) = false := by simp; omega
  clear hx h hlo hhi
  go_enter Tryz.func118, Tryz.ntmps118
  go_wp2_with (go_at_call 154; refine HC.out.mono ?_; rintro e w' ⟨rfl, rfl⟩)
  go_ret
  exact ⟨rfl, Below.refl _ _⟩
 ·have hx : textV n = ⟨#[]⟩ ∧ clV n = 0 ∧ clB n = false := by unfold textV clV clB; rw [if_neg (by omega), if_neg (by omega)]; exact ⟨rfl, rfl, by simp; omega⟩
  rw [hx.1]
  have HC := Hd (rcl_any n hlo hhi w)
  rw [hx.2.1, hx.2.2] at HC
  have h3 : (n == 0) = false := by simp; omega
  clear hx h hlo hhi
  go_enter Tryz.func118, Tryz.ntmps118
  go_wp2_with (go_at_call 154; refine HC.out.mono ?_; rintro e w' ⟨rfl, rfl⟩)
  go_ret
  exact ⟨rfl, Below.refl _ _⟩
 ·go_enter Tryz.func118, Tryz.ntmps118
  go_wp2
  go_ret
  exact ⟨rfl, Below.refl _ _⟩
 ·go_enter Tryz.func118, Tryz.ntmps118
  go_wp2_with (first | (go_at_call 155; refine (dig0 _).mono ?_; rintro e w1 ⟨rfl, hb⟩) | go_in)
  go_ret
  exact ⟨rfl, hb⟩
 ·go_enter Tryz.func118, Tryz.ntmps118
  go_wp2_with (first | (go_at_call 155; refine (dig0 _).mono ?_; rintro e w1 ⟨rfl, hb⟩) | go_in)
  go_ret
  exact ⟨rfl, hb⟩
 ·go_enter Tryz.func118, Tryz.ntmps118
  go_wp2_with (first | (go_at_call 155; refine (dig1 _).mono ?_; rintro e w1 ⟨rfl, hb⟩) | go_in)
  go_ret
  exact ⟨rfl, hb⟩
 ·go_enter Tryz.func118, Tryz.ntmps118
  go_wp2_with (first | (go_at_call 155; refine (dig1 _).mono ?_; rintro e w1 ⟨rfl, hb⟩) | go_in)
  go_ret
  exact ⟨rfl, hb⟩
 ·go_enter Tryz.func118, Tryz.ntmps118
  go_wp2_with (first | (go_at_call 155; refine (dig2 _).mono ?_; rintro e w1 ⟨rfl, hb⟩) | go_in)
  go_ret
  exact ⟨rfl, hb⟩
 ·go_enter Tryz.func118, Tryz.ntmps118
  go_wp2_with (first | (go_at_call 155; refine (dig2 _).mono ?_; rintro e w1 ⟨rfl, hb⟩) | go_in)
  go_ret
  exact ⟨rfl, hb⟩
 all_goals
  go_enter Tryz.func118, Tryz.ntmps118
  go_wp2_with (first | (go_at_call 155; refine (dig3 _).mono ?_; rintro e w1 ⟨rfl, hb⟩) | go_in)
  go_ret
  exact ⟨rfl, hb⟩
end Go.Proofs.YtdaimeaofgbfpaaGreat.Si
