/-
  GRAPHS THAT LIE IN MEMORY; a place is asked for; the document's Few and Edge. WHAT edges TELLS: each edge that leads to a place.
-/
import Derived.Test.YtbknmapkdjmcjaaGreatDoorRows
import Derived.Test.YtbknmapkdjmcjaaGreatDoorZd
import Derived.Test.YtbknmapkdjmcjaaGreatDoorZe
import Derived.Test.YtbknmapkdjmcjaaGreatDoorGn
import Derived.WalkKit
import Derived.ProofKit
import Derived.Lib.Hide
import Derived.BigQuiet
import Derived.Deep.QuietTactic
import Derived.LoopTactic
import Derived.IntWalk
import Derived.Shelf.Abstract
import Derived.OwnWalkIn
import Derived.TacticsInMore
import Derived.LoopNIn
import Derived.LoopIn
namespace Go.Proofs.YtbknmapkdjmcjaaGreatDoor.By
open Go.RowKit
open Mem Gm Rf

theorem ret_bool {a b : Bool} (h : a = b) : Ending.returned (.bool a) = .returned (.bool b) := by rw [h]
theorem ret_int {k : IntKind} {a b : Int} (h : a = b) : Ending.returned (.int k a) = .returned (.int k b) := by rw [h]

/-- A place's row; a list's number. -/
def rowOf (g : List (List Int)) (a : Nat) : List Int := g.getD a []
def el (l : List Int) (i : Nat) : Int := l.getD i 0
theorem el_at {l : List Int} {i : Nat} (h : i < l.length) : l[i] = el l i := by unfold el; rw [List.getD_eq_getElem?_getD, List.getElem?_eq_getElem h]; rfl

def ints (l : List Int) : List Value := l.map (Value.int .i64)
def nats (l : List Nat) : List Value := l.map fun (n : Nat) => Value.int .i64 (n : Int)
theorem ints_at {l : List Int} {i : Nat} (hi : i < l.length) : (ints l)[i]? = some (.int .i64 (el l i)) := by
  rw [ints, List.getElem?_map, List.getElem?_eq_getElem hi, el_at hi]; rfl
theorem nats_ints (l : List Nat) : nats l = ints (l.map fun (n : Nat) => (n : Int)) := by simp [nats, ints]

/-- A value that reads as a graph, below B. -/
def Gr (w : World) (B : Nat) (v : Value) (g : List (List Int)) : Prop :=
  ∃ rs, SlV w B v rs ∧ rs.length = g.length ∧ ∀ i rv, rs[i]? = some rv → ∃ A c, rv = .slice A (rowOf g i).length c ∧ SlV w B rv (ints (rowOf g i))

section
variable {w w' : World} {B B' : Nat} {v : Value} {g : List (List Int)}
theorem Gr.keep (h : Gr w B v g) (hk : ∀ p : Addr, p.block < B → w'.cell? p = w.cell? p) : Gr w' B v g := by
  obtain ⟨rs, h1, h2, h3⟩ := h
  exact ⟨rs, h1.keep hk, h2, fun i rv hi => by obtain ⟨A, c, e, hs⟩ := h3 i rv hi; exact ⟨A, c, e, hs.keep hk⟩⟩
theorem Gr.more (h : Gr w B v g) (hB : B ≤ B') : Gr w B' v g := by
  obtain ⟨rs, h1, h2, h3⟩ := h
  exact ⟨rs, h1.more hB, h2, fun i rv hi => by obtain ⟨A, c, e, hs⟩ := h3 i rv hi; exact ⟨A, c, e, hs.more hB⟩⟩
theorem Gr.below (h : Gr w B v g) (hb : Below B w w') : Gr w' B v g := h.keep fun _ hp => hb.cell hp
theorem Gr.only (h : Gr w B v g) {r : Nat} (hg : w.grownBy w' (some r)) (hB : B ≤ w.heap.size) (hgB : B ≤ r) : Gr w' B v g :=
  h.keep fun p hp => World.cell?_of_block (hg.block p.block (by omega) (fun e => by injection e; omega))
/-- What there is to read: the header; a row's header; a number. -/
theorem Gr.form (h : Gr w B v g) : ∃ A c, v = .slice A g.length c := by
  obtain ⟨rs, h1, h2, _⟩ := h
  obtain ⟨A, c, e⟩ := h1.form
  exact ⟨A, c, by rw [e, h2]⟩
/-- The header's cells, by places. -/
theorem Gr.rows (h : Gr w B v g) (h0 : 0 < g.length) : ∃ ad c, v = .slice (some ad) g.length c ∧ g.length ≤ c ∧ c ≤ maxLen ∧ ad.block < B ∧
    ∀ i, i < g.length → ∃ A c, w.cell? (ad.add i) = some (.slice A (rowOf g i).length c) ∧ SlV w B (.slice A (rowOf g i).length c) (ints (rowOf g i)) := by
  obtain ⟨rs, h1, h2, h3⟩ := h
  cases h1 with
  | nil => simp at h2; omega
  | at_ ad cap _ hc hm hr =>
    have hrow : ∀ i, i < g.length → ∃ A c, w.cell? (ad.add i) = some (.slice A (rowOf g i).length c) ∧ SlV w B (.slice A (rowOf g i).length c) (ints (rowOf g i)) := fun i hi => by
      have hi' : i < rs.length := by omega
      obtain ⟨A, c, e, hs⟩ := h3 i _ (List.getElem?_eq_getElem hi')
      refine ⟨A, c, ?_, e ▸ hs⟩
      rw [hr.at_ hi', e]
    refine ⟨ad, cap, by rw [h2], by omega, hm, ?_, hrow⟩
    have := (hr 0 rs[0] (List.getElem?_eq_getElem (by omega))).1
    exact this
end

/-- A row that reads as numbers: nil, or its cells. -/
theorem ints_row {w : World} {B : Nat} {A : Option Addr} {c : Nat} {l : List Int} (h : SlV w B (.slice A l.length c) (ints l)) :
    (l = [] ∧ ((A = none ∧ c = 0) ∨ ∃ ad, A = some ad)) ∨ ∃ ad, A = some ad ∧ ad.block < B ∧ ∀ i, i < l.length → w.cell? (ad.add i) = some (.int .i64 (el l i)) := by
  rcases h.inv with ⟨rfl, h1, rfl, _⟩ | ⟨ad, rfl, _, _, _, hr⟩
  · left; exact ⟨List.eq_nil_of_length_eq_zero h1, .inl ⟨rfl, rfl⟩⟩
  · cases l with
    | nil => left; exact ⟨rfl, .inr ⟨ad, rfl⟩⟩
    | cons x l =>
      right
      refine ⟨ad, rfl, (hr 0 (.int .i64 x) (by simp [ints])).1, fun i hi => (hr i _ (ints_at hi)).2⟩

theorem isPlace_any (A : Option Addr) (n c : Nat) (p : Int) (w : World) : Calls Tryz.prog 353 #[.slice A n c, .int .i64 p] w fun e w' => e = .returned (.bool (decide (0 ≤ p) && decide (p < n))) ∧ w = w' := by
  by_cases h0 : 0 ≤ p
  · have h0' : decide (0 ≤ p) = true := decide_eq_true h0
    by_cases h1 : p < n
    · have h1' : decide (p < n) = true := decide_eq_true h1
      rw [h0', h1']
      go_enter Tryz.func353, Tryz.ntmps353
      go_wp2
      all_goals go_ret
      all_goals exact ⟨rfl, rfl⟩
    · have h1' : decide (p < n) = false := decide_eq_false h1
      rw [h0', h1']
      go_enter Tryz.func353, Tryz.ntmps353
      go_wp2
      all_goals go_ret
      all_goals exact ⟨rfl, rfl⟩
  · have h0' : decide (0 ≤ p) = false := decide_eq_false h0
    rw [h0', Bool.false_and]
    go_enter Tryz.func353, Tryz.ntmps353
    go_wp2
    all_goals go_ret
    all_goals exact ⟨rfl, rfl⟩

theorem walk_any (A : Option Addr) (n c : Nat) (A2 : Option Addr) (n2 c2 : Nat) (w : World) :
    Calls Tryz.prog 345 #[.slice A n c, .slice A2 n2 c2] w fun e w' => e = .returned (.func (.func 351) #[] #[.pointer (some ⟨w.heap.size, 0, none⟩), .pointer (some ⟨w.heap.size + 1, 0, none⟩)]) ∧
      w' = (w.alloc (.cells #[.slice A n c] 224)).alloc (.cells #[.slice A2 n2 c2] 22) := by
  go_enter Tryz.func345, Tryz.ntmps345
  go_wp2
  go_ret
  exact ⟨rfl, rfl⟩
end Go.Proofs.YtbknmapkdjmcjaaGreatDoor.By

namespace Go.Proofs.YtbknmapkdjmcjaaGreatDoor.By
open Go.RowKit
open Mem Gm Rf
attribute [local go_sem] Oper.semAt_some

def rowE (g : List (List Int)) (a : Nat) (l : List Int) : List (Nat × Nat) := (l.filter (isP g)).map fun c => (a, c.toNat)
def edgesTo (g : List (List Int)) (k j : Nat) : List (Nat × Nat) := ((List.range k).flatMap fun a => rowE g a (rowOf g a)) ++ rowE g k ((rowOf g k).take j)
def edgesL (g : List (List Int)) : List (Nat × Nat) := (List.range g.length).flatMap fun a => rowE g a (rowOf g a)

theorem edgesTo_zero (g : List (List Int)) (k : Nat) : edgesTo g k 0 = (List.range k).flatMap fun a => rowE g a (rowOf g a) := by simp [edgesTo, rowE]
theorem edgesTo_next (g : List (List Int)) (k : Nat) : edgesTo g k (rowOf g k).length = edgesTo g (k + 1) 0 := by
  rw [edgesTo_zero, List.range_succ, List.flatMap_append, edgesTo, List.take_length]; simp
theorem edgesTo_more (g : List (List Int)) (k j : Nat) (h : j < (rowOf g k).length) :
    edgesTo g k (j + 1) = edgesTo g k j ++ (if isP g (el (rowOf g k) j) then [(k, (el (rowOf g k) j).toNat)] else []) := by
  unfold edgesTo rowE
  rw [List.take_succ_eq_append_getElem h, List.filter_append, List.map_append, List.append_assoc]
  rw [el_at h]
  by_cases hp : isP g (el (rowOf g k) j) = true
  · simp [hp]
  · simp [hp]
theorem edgesTo_all (g : List (List Int)) : edgesTo g g.length 0 = edgesL g := edgesTo_zero _ _
theorem edgesTo_up (g : List (List Int)) (k : Nat) : edgesTo g k 0 <+: edgesTo g (k + 1) 0 := by
  rw [edgesTo_zero, edgesTo_zero, List.range_succ, List.flatMap_append]; exact List.prefix_append _ _
theorem edgesTo_pre (g : List (List Int)) : ∀ d k, k + d = g.length → edgesTo g k 0 <+: edgesL g
  | 0, k, h => by rw [← edgesTo_all, show k = g.length by omega]; exact List.prefix_refl _
  | d + 1, k, h => (edgesTo_up g k).trans (edgesTo_pre g d (k + 1) (by omega))
theorem edgesTo_in (g : List (List Int)) {k j : Nat} (hk : k < g.length) : edgesTo g k j <+: edgesL g := by
  refine List.IsPrefix.trans ?_ (edgesTo_pre g (g.length - (k + 1)) (k + 1) (by omega))
  rw [← edgesTo_next]
  unfold edgesTo rowE
  refine (List.prefix_append_right_inj _).2 ?_
  rw [List.take_length]
  exact ((List.take_prefix j _).filter _).map _
theorem isP_bool (g : List (List Int)) (p : Int) : (decide (0 ≤ p) && decide (p < (g.length : Int))) = isP g p := rfl

end Go.Proofs.YtbknmapkdjmcjaaGreatDoor.By
