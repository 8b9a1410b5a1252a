/-
  FILES' SYMBOLS IN MEMORY, and who has a name: mathematics of layer 23.
-/
import Derived.Test.YtmabenffdpipmaaRows
import Derived.Test.YtmabenffdpipmaaZd
import Derived.Test.YtmabenffdpipmaaZe
import Derived.WalkKit
import Derived.ProofKit
import Derived.Lib.Hide
import Derived.BigQuiet
import Derived.Deep.QuietTactic
import Derived.LoopTactic
import Derived.IntWalk
import Derived.Shelf.Abstract
import Derived.OwnWalkIn
import Derived.TacticsInMore
import Derived.LoopNIn
import Derived.LoopIn
namespace Go.Proofs.Ytmabenffdpipmaa.By
open Go.RowKit
open Mem Rf

section
variable {α : Type} {k : Nat} {enc : α → List Value} {w w' : World} {B B' n c : Nat} {v : Value} {A : Option Addr} {l : List α}

/-- A slice, nil or not, of elements of k cells each: it reads as l, and lies below B. -/
def Wd (k : Nat) (enc : α → List Value) (w : World) (B : Nat) (A : Option Addr) (n c : Nat) (l : List α) : Prop :=
  l.length = n ∧ n ≤ c ∧ c ≤ maxLen ∧ (A = none → c = 0) ∧ ∀ i x, l[i]? = some x → ∃ ad, A = some ad ∧ ad.block < B ∧ ∀ j u, (enc x)[j]? = some u → w.cell? ((ad.add (i * k)).add j) = some u

theorem Wd.keep (h : Wd k enc w B A n c l) (hk : ∀ p : Addr, p.block < B → w'.cell? p = w.cell? p) : Wd k enc w' B A n c l :=
  ⟨h.1, h.2.1, h.2.2.1, h.2.2.2.1, fun i x hi => by
    obtain ⟨ad, e, hb, hc⟩ := h.2.2.2.2 i x hi
    exact ⟨ad, e, hb, fun j u hu => (hk _ (by rw [add_block, add_block]; exact hb)).trans (hc j u hu)⟩⟩
theorem Wd.below (h : Wd k enc w B A n c l) (hb : Below B w w') : Wd k enc w' B A n c l := h.keep fun _ hp => hb.cell hp
theorem Wd.more (h : Wd k enc w B A n c l) (hB : B ≤ B') : Wd k enc w B' A n c l :=
  ⟨h.1, h.2.1, h.2.2.1, h.2.2.2.1, fun i x hi => by
    obtain ⟨ad, e, hb, hc⟩ := h.2.2.2.2 i x hi
    exact ⟨ad, e, by omega, hc⟩⟩
theorem Wd.nil : Wd k enc w B none 0 0 ([] : List α) := ⟨rfl, Nat.le_refl _, Nat.zero_le _, fun _ => rfl, fun i x hi => by simp at hi⟩
theorem Wd.few (h : Wd k enc w B A n c l) : n ≤ 9223372036854775807 := by
  have h1 := h.2.1
  have h2 := h.2.2.1
  unfold maxLen at h2; omega
end

theorem add_field (x : Addr) (j : Nat) (hj : 0 < j) : x.add j = ⟨x.block, x.off + j, none⟩ := by
  unfold Addr.add
  rw [if_neg (by omega)]

/-- A symbol: its name, whether it is local, its sort, its kind, its place. -/
abbrev Sy := ByteArray × Bool × Int × Int × Int
def encSy (x : Sy) : List Value := [.string x.1, .bool x.2.1, .int .i64 x.2.2.1, .int .i64 x.2.2.2.1, .int .i64 x.2.2.2.2]
def syV (x : Sy) : Value := .agg #[.string x.1, .bool x.2.1, .int .i64 x.2.2.1, .int .i64 x.2.2.2.1, .int .i64 x.2.2.2.2]
def sy0 : Sy := (⟨#[]⟩, false, 0, 0, 0)
def syAt (l : List Sy) (i : Nat) : Sy := l.getD i sy0
theorem syAt_some {l : List Sy} {i : Nat} (h : i < l.length) : l[i]? = some (syAt l i) := by unfold syAt; rw [List.getD_eq_getElem?_getD, List.getElem?_eq_getElem h]; rfl

/-- A slice as it lies. -/
abbrev Sl3 := Option Addr × Nat × Nat
def slV (x : Sl3) : Value := .slice x.1 x.2.1 x.2.2
/-- A file: its symbols as they lie, and what else it has. -/
structure Ob where
  A : Option Addr
  n : Nat
  c : Nat
  l : List Sy
  F : Sl3
  D : Sl3
def encOb (o : Ob) : List Value := [.slice o.A o.n o.c, slV o.F, slV o.D]
def ob0 : Ob := ⟨none, 0, 0, [], (none, 0, 0), (none, 0, 0)⟩
def obAt (l : List Ob) (i : Nat) : Ob := l.getD i ob0
theorem obAt_some {l : List Ob} {i : Nat} (h : i < l.length) : l[i]? = some (obAt l i) := by unfold obAt; rw [List.getD_eq_getElem?_getD, List.getElem?_eq_getElem h]; rfl

/-- Files that lie below B. -/
def ObL (w : World) (B : Nat) (A : Option Addr) (n c : Nat) (os : List Ob) : Prop :=
  Wd 3 encOb w B A n c os ∧ ∀ i, i < n → Wd 5 encSy w B (obAt os i).A (obAt os i).n (obAt os i).c (obAt os i).l

theorem ObL.keep {w w' : World} {B : Nat} {A : Option Addr} {n c : Nat} {os : List Ob} (h : ObL w B A n c os) (hk : ∀ p : Addr, p.block < B → w'.cell? p = w.cell? p) : ObL w' B A n c os := ⟨h.1.keep hk, fun i hi => (h.2 i hi).keep hk⟩
theorem ObL.below {w w' : World} {B : Nat} {A : Option Addr} {n c : Nat} {os : List Ob} (h : ObL w B A n c os) (hb : Below B w w') : ObL w' B A n c os := h.keep fun _ hp => hb.cell hp
theorem ObL.more {w : World} {B B' : Nat} {A : Option Addr} {n c : Nat} {os : List Ob} (h : ObL w B A n c os) (hB : B ≤ B') : ObL w B' A n c os := ⟨h.1.more hB, fun i hi => (h.2 i hi).more hB⟩
theorem ObL.on {w w' : World} {B : Nat} {A : Option Addr} {n c : Nat} {os : List Ob} (h : ObL w B A n c os) (hB : B ≤ w.heap.size) (hb : Below w.heap.size w w') : ObL w' B A n c os := h.below (hb.mono hB)

/-- A file's cells, at the addresses that the walk reckons. -/
theorem ObL.at_ {w : World} {B : Nat} {A : Option Addr} {n c : Nat} {os : List Ob} (h : ObL w B A n c os) {i : Nat} (hi : i < n) :
    ∃ ad, A = some ad ∧ ad.block < B ∧ w.cell? (ad.add (i * 3)) = some (.slice (obAt os i).A (obAt os i).n (obAt os i).c) ∧ w.cell? ⟨(ad.add (i * 3)).block, (ad.add (i * 3)).off + 1, none⟩ = some (slV (obAt os i).F) ∧ w.cell? ⟨(ad.add (i * 3)).block, (ad.add (i * 3)).off + 2, none⟩ = some (slV (obAt os i).D) := by
  obtain ⟨ad, e, hb, hc⟩ := h.1.2.2.2.2 i _ (obAt_some (by rw [h.1.1]; exact hi))
  have h0 := hc 0 _ rfl
  have h1 := hc 1 _ rfl
  have h2 := hc 2 _ rfl
  rw [add_field _ 1 (by omega)] at h1
  rw [add_field _ 2 (by omega)] at h2
  exact ⟨ad, e, hb, h0, h1, h2⟩

/-- A symbol's cells, at the addresses that the walk reckons. -/
theorem syl_at {w : World} {B : Nat} {A : Option Addr} {n c : Nat} {l : List Sy} (h : Wd 5 encSy w B A n c l) {i : Nat} (hi : i < n) :
    ∃ ad, A = some ad ∧ ad.block < B ∧ w.cell? (ad.add (i * 5)) = some (.string (syAt l i).1) ∧ w.cell? ⟨(ad.add (i * 5)).block, (ad.add (i * 5)).off + 1, none⟩ = some (.bool (syAt l i).2.1) ∧ w.cell? ⟨(ad.add (i * 5)).block, (ad.add (i * 5)).off + 2, none⟩ = some (.int .i64 (syAt l i).2.2.1) ∧ w.cell? ⟨(ad.add (i * 5)).block, (ad.add (i * 5)).off + 3, none⟩ = some (.int .i64 (syAt l i).2.2.2.1) ∧ w.cell? ⟨(ad.add (i * 5)).block, (ad.add (i * 5)).off + 4, none⟩ = some (.int .i64 (syAt l i).2.2.2.2) := by
  obtain ⟨ad, e, hb, hc⟩ := h.2.2.2.2 i _ (syAt_some (by rw [h.1]; exact hi))
  have h0 := hc 0 _ rfl
  have h1 := hc 1 _ rfl
  have h2 := hc 2 _ rfl
  have h3 := hc 3 _ rfl
  have h4 := hc 4 _ rfl
  rw [add_field _ 1 (by omega)] at h1
  rw [add_field _ 2 (by omega)] at h2
  rw [add_field _ 3 (by omega)] at h3
  rw [add_field _ 4 (by omega)] at h4
  exact ⟨ad, e, hb, h0, h1, h2, h3, h4⟩

/-! ### who has a name -/
/-- A place: a file, and a symbol in it. -/
abbrev Pl := Nat × Nat
abbrev Gs := Pl × Sy
def rowS (L : List (List Sy)) (i : Nat) : List Sy := L.getD i []
def atS (L : List (List Sy)) (i k : Nat) : Sy := syAt (rowS L i) k
def rowL (L : List (List Sy)) (i : Nat) : List Gs := (List.range (rowS L i).length).map fun k => ((i, k), atS L i k)
def upTo (L : List (List Sy)) (i j : Nat) : List Gs := ((List.range i).flatMap (rowL L)) ++ (rowL L i).take j
def allS (L : List (List Sy)) : List Gs := (List.range L.length).flatMap (rowL L)

theorem rowL_length (L : List (List Sy)) (i : Nat) : (rowL L i).length = (rowS L i).length := by simp [rowL]
theorem upTo_zero (L : List (List Sy)) (i : Nat) : upTo L i 0 = (List.range i).flatMap (rowL L) := by simp [upTo]
theorem upTo_next (L : List (List Sy)) (i : Nat) : upTo L i (rowS L i).length = upTo L (i + 1) 0 := by
  rw [upTo_zero, List.range_succ, List.flatMap_append, upTo, ← rowL_length, List.take_length]; simp
theorem upTo_more (L : List (List Sy)) (i j : Nat) (h : j < (rowS L i).length) : upTo L i (j + 1) = upTo L i j ++ [((i, j), atS L i j)] := by
  have h' : j < (rowL L i).length := by rw [rowL_length]; exact h
  unfold upTo
  rw [List.take_succ_eq_append_getElem h', List.append_assoc]
  congr 2
  simp [rowL]
theorem upTo_all (L : List (List Sy)) : upTo L L.length 0 = allS L := upTo_zero _ _
theorem upTo_up (L : List (List Sy)) (i : Nat) : upTo L i 0 <+: upTo L (i + 1) 0 := by
  rw [upTo_zero, upTo_zero, List.range_succ, List.flatMap_append]; exact List.prefix_append _ _
theorem upTo_pre (L : List (List Sy)) : ∀ d i, i + d = L.length → upTo L i 0 <+: allS L
  | 0, i, h => by rw [← upTo_all, show i = L.length by omega]; exact List.prefix_refl _
  | d + 1, i, h => (upTo_up L i).trans (upTo_pre L d (i + 1) (by omega))
theorem upTo_in (L : List (List Sy)) {i j : Nat} (hi : i < L.length) : upTo L i j <+: allS L := by
  refine List.IsPrefix.trans ?_ (upTo_pre L (L.length - (i + 1)) (i + 1) (by omega))
  rw [← upTo_next]
  unfold upTo
  refine (List.prefix_append_right_inj _).2 ?_
  rw [← rowL_length, List.take_length]
  exact List.take_prefix j _

/-- What stands in allS stands where it says. -/
theorem mem_allS {L : List (List Sy)} {x : Gs} (h : x ∈ allS L) : x.1.1 < L.length ∧ x.1.2 < (rowS L x.1.1).length ∧ x.2 = atS L x.1.1 x.1.2 := by
  unfold allS at h
  obtain ⟨i, hi, hx⟩ := List.mem_flatMap.1 h
  unfold rowL at hx
  obtain ⟨k, hk, rfl⟩ := List.mem_map.1 hx
  exact ⟨List.mem_range.1 hi, List.mem_range.1 hk, rfl⟩
theorem allS_mem {L : List (List Sy)} {i k : Nat} (hi : i < L.length) (hk : k < (rowS L i).length) : ((i, k), atS L i k) ∈ allS L := by
  unfold allS
  refine List.mem_flatMap.2 ⟨i, List.mem_range.2 hi, ?_⟩
  unfold rowL
  exact List.mem_map.2 ⟨k, List.mem_range.2 hk, rfl⟩

/-- A symbol that other files may refer to. -/
def isG (s : Sy) : Bool := !s.2.1 && decide (s.2.2.2.2 ≠ -1)
def globs (L : List (List Sy)) : List Gs := (allS L).filter fun x => isG x.2
/-- Where the first of a name stands. -/
def firstOf (gs : List Gs) (nm : ByteArray) : Option Pl := (gs.find? fun x => decide (x.2.1 = nm)).map (·.1)
def findV (L : List (List Sy)) (nm : ByteArray) : Option Pl := firstOf (globs L) nm

theorem firstOf_nil (nm : ByteArray) : firstOf [] nm = none := rfl
theorem firstOf_snoc (gs : List Gs) (x : Gs) (nm : ByteArray) : firstOf (gs ++ [x]) nm = match firstOf gs nm with | some p => some p | none => if x.2.1 = nm then some x.1 else none := by
  unfold firstOf
  rw [List.find?_append]
  cases h : gs.find? fun x => decide (x.2.1 = nm) with
  | some y => simp
  | none =>
    by_cases hx : x.2.1 = nm
    · simp [hx]
    · simp [hx]
theorem firstOf_some {gs : List Gs} {nm : ByteArray} {p : Pl} (h : firstOf gs nm = some p) : ∃ s : Sy, (p, s) ∈ gs ∧ s.1 = nm := by
  unfold firstOf at h
  obtain ⟨y, hy, rfl⟩ := Option.map_eq_some_iff.1 h
  exact ⟨y.2, List.mem_of_find?_eq_some hy, by simpa using List.find?_some hy⟩
theorem findV_some {L : List (List Sy)} {nm : ByteArray} {p : Pl} (h : findV L nm = some p) : p.1 < L.length ∧ p.2 < (rowS L p.1).length ∧ (atS L p.1 p.2).1 = nm ∧ isG (atS L p.1 p.2) = true := by
  obtain ⟨s, hs, rfl⟩ := firstOf_some h
  obtain ⟨h1, h2⟩ := List.mem_filter.1 hs
  obtain ⟨a, b, c⟩ := mem_allS h1
  dsimp only at a b c h2
  subst c
  exact ⟨a, b, rfl, h2⟩

def plV (p : Pl) : Value := .agg #[.int .i64 (p.1 : Int), .int .i64 (p.2 : Int)]
end Go.Proofs.Ytmabenffdpipmaa.By
