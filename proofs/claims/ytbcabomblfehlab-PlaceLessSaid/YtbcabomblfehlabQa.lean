/-
  Oz, Om, Oa, Ob, Oc, Od, Oe, Of, Og, Oh, Oi, Oj, Ok, Ol, On
-/
import Derived.Test.YtbcabomblfehlabRows
import Derived.Test.YtbcabomblfehlabZd
import Derived.Test.YtbcabomblfehlabZe
import Derived.WalkKit
import Derived.ProofKit
import Derived.Lib.Hide
import Derived.BigQuiet
import Derived.Deep.QuietTactic
import Derived.LoopTactic
import Derived.IntWalk
import Derived.Shelf.Abstract
import Derived.OwnWalkIn
import Derived.TacticsInMore
import Derived.LoopNIn
import Derived.LoopIn
import Derived.Deep.RegionHeld3
import Derived.Laws.EntriesVeiled

namespace Go.Proofs.Ytbcabomblfehlab.Bo
open Go.RowKit
open Mem Rf

section
variable {α : Type} {k : Nat} {enc : α → List Value} {w w' : World} {B B' n c : Nat} {v : Value} {A : Option Addr} {l : List α}

/-- A slice, nil or not, of elements of k cells each: it reads as l, and lies below B. -/
def Wd (k : Nat) (enc : α → List Value) (w : World) (B : Nat) (A : Option Addr) (n c : Nat) (l : List α) : Prop :=
  l.length = n ∧ n ≤ c ∧ c ≤ maxLen ∧ (A = none → c = 0) ∧ ∀ i x, l[i]? = some x → ∃ ad, A = some ad ∧ ad.block < B ∧ ∀ j u, (enc x)[j]? = some u → w.cell? ((ad.add (i * k)).add j) = some u

theorem Wd.keep (h : Wd k enc w B A n c l) (hk : ∀ p : Addr, p.block < B → w'.cell? p = w.cell? p) : Wd k enc w' B A n c l :=
  ⟨h.1, h.2.1, h.2.2.1, h.2.2.2.1, fun i x hi => by
    obtain ⟨ad, e, hb, hc⟩ := h.2.2.2.2 i x hi
    exact ⟨ad, e, hb, fun j u hu => (hk _ (by rw [add_block, add_block]; exact hb)).trans (hc j u hu)⟩⟩
theorem Wd.below (h : Wd k enc w B A n c l) (hb : Below B w w') : Wd k enc w' B A n c l := h.keep fun _ hp => hb.cell hp
theorem Wd.more (h : Wd k enc w B A n c l) (hB : B ≤ B') : Wd k enc w B' A n c l :=
  ⟨h.1, h.2.1, h.2.2.1, h.2.2.2.1, fun i x hi => by
    obtain ⟨ad, e, hb, hc⟩ := h.2.2.2.2 i x hi
    exact ⟨ad, e, by omega, hc⟩⟩
theorem Wd.nil : Wd k enc w B none 0 0 ([] : List α) := ⟨rfl, Nat.le_refl _, Nat.zero_le _, fun _ => rfl, fun i x hi => by simp at hi⟩
end

theorem add_field (x : Addr) (j : Nat) (hj : 0 < j) : x.add j = ⟨x.block, x.off + j, none⟩ := by
  unfold Addr.add
  rw [if_neg (by omega)]

theorem to_ {w w' w'' : World} (h : Below w.heap.size w w') (k : Below w'.heap.size w' w'') : Below w.heap.size w w'' := h.trans (k.mono h.size)
theorem alloc_ (w : World) (o : Obj) : Below w.heap.size w (w.alloc o) := (Below.refl _ w).alloc (Nat.le_refl _) o

/-- A symbol: its name, whether it is local, Sort, Kind, Def. -/
abbrev Sy := ByteArray × Bool × Int × Int × Int
def encSy (x : Sy) : List Value := [.string x.1, .bool x.2.1, .int .i64 x.2.2.1, .int .i64 x.2.2.2.1, .int .i64 x.2.2.2.2]
def syAt (l : List Sy) (i : Nat) : Sy := l.getD i (⟨#[]⟩, false, 0, 0, 0)
theorem syAt_some {l : List Sy} {i : Nat} (h : i < l.length) : l[i]? = some (syAt l i) := by unfold syAt; rw [List.getD_eq_getElem?_getD, List.getElem?_eq_getElem h]; rfl
def SyL (w : World) (A : Option Addr) (n c : Nat) (l : List Sy) : Prop := Wd 5 encSy w w.heap.size A n c l
theorem SyL.at_ {w : World} {A : Option Addr} {n c : Nat} {l : List Sy} (h : SyL w A n c l) {i : Nat} (hi : i < n) :
    ∃ ad, A = some ad ∧ ad.block < w.heap.size ∧ w.cell? (ad.add (i * 5)) = some (.string (syAt l i).1) ∧ w.cell? ⟨(ad.add (i * 5)).block, (ad.add (i * 5)).off + 1, none⟩ = some (.bool (syAt l i).2.1) ∧ w.cell? ⟨(ad.add (i * 5)).block, (ad.add (i * 5)).off + 2, none⟩ = some (.int .i64 (syAt l i).2.2.1) ∧ w.cell? ⟨(ad.add (i * 5)).block, (ad.add (i * 5)).off + 3, none⟩ = some (.int .i64 (syAt l i).2.2.2.1) ∧ w.cell? ⟨(ad.add (i * 5)).block, (ad.add (i * 5)).off + 4, none⟩ = some (.int .i64 (syAt l i).2.2.2.2) := by
  obtain ⟨ad, e, hb, hc⟩ := h.2.2.2.2 i _ (syAt_some (by rw [h.1]; exact hi))
  have h0 := hc 0 _ rfl
  have h1 := hc 1 _ rfl
  have h2 := hc 2 _ rfl
  have h3 := hc 3 _ rfl
  have h4 := hc 4 _ rfl
  rw [add_field _ 1 (by omega)] at h1
  rw [add_field _ 2 (by omega)] at h2
  rw [add_field _ 3 (by omega)] at h3
  rw [add_field _ 4 (by omega)] at h4
  exact ⟨ad, e, hb, h0, h1, h2, h3, h4⟩
theorem SyL.on {w w' : World} {A : Option Addr} {n c : Nat} {l : List Sy} (h : SyL w A n c l) (hb : Below w.heap.size w w') : SyL w' A n c l := (Wd.below h hb).more hb.size
theorem SyL.few {w : World} {A : Option Addr} {n c : Nat} {l : List Sy} (h : SyL w A n c l) : n ≤ 9223372036854775807 := by
  have h1 := h.2.1
  have h2 := h.2.2.1
  unfold maxLen at h2; omega
end Go.Proofs.Ytbcabomblfehlab.Bo

namespace Go.Proofs.Ytbcabomblfehlab.Bo
open Go.RowKit
open Mem Rf

/-- How many of the first k symbols of a sort are defined. -/
def defn (l : List Sy) (s : Int) (k : Nat) : Nat := ((List.range k).filter fun j => decide ((syAt l j).2.2.1 = s ∧ (syAt l j).2.2.2.2 ≠ -1)).length
def mostO (nF nD : Nat) (s : Int) : Nat := if s = 1 then nF else nD
/-- An item's sort, and its place among those of its sort. -/
def keyO (nF : Nat) (i : Nat) : Int × Int := if i < nF then (1, (i : Int)) else (2, (i : Int) - (nF : Int))
/-- The first symbol that defines an item. -/
def dfr (l : List Sy) (nF : Nat) (i : Nat) : Option Nat := (List.range l.length).find? fun k => decide ((syAt l k).2.2.1 = (keyO nF i).1 ∧ (syAt l k).2.2.2.2 = (keyO nF i).2)
/-- A symbol that is right, as far as it is asked what it defines. -/
def dfOk (l : List Sy) (nF nD : Nat) (k : Nat) : Prop :=
  ((syAt l k).2.2.1 = 1 ∨ (syAt l k).2.2.1 = 2) ∧ ((syAt l k).2.2.2.2 = -1 ∨ ((syAt l k).2.2.2.2 = (defn l (syAt l k).2.2.1 k : Int) ∧ (syAt l k).2.2.2.2 < (mostO nF nD (syAt l k).2.2.1 : Int)))
theorem defn_succ (l : List Sy) (s : Int) (k : Nat) : defn l s (k + 1) = defn l s k + (if (syAt l k).2.2.1 = s ∧ (syAt l k).2.2.2.2 ≠ -1 then 1 else 0) := by
  unfold defn
  rw [List.range_succ, List.filter_append, List.length_append]
  congr 1
  by_cases h : (syAt l k).2.2.1 = s ∧ (syAt l k).2.2.2.2 ≠ -1
  · simp [h]
  · rw [if_neg h]; simp only [List.filter_cons, List.filter_nil]; rw [if_neg (by simpa using h)]; rfl
theorem dfr_some {l : List Sy} {nF i k : Nat} (h : dfr l nF i = some k) : k < l.length ∧ (syAt l k).2.2.1 = (keyO nF i).1 ∧ (syAt l k).2.2.2.2 = (keyO nF i).2 := by
  unfold dfr at h
  have h1 := List.mem_of_find?_eq_some h
  have h2 := List.find?_some h
  simp at h2
  exact ⟨List.mem_range.1 h1, h2⟩
theorem key_inj {nF i j : Nat} (h : keyO nF i = keyO nF j) : i = j := by
  unfold keyO at h
  split at h <;> split at h <;> (rw [Prod.mk.injEq] at h; omega)
end Go.Proofs.Ytbcabomblfehlab.Bo

namespace Go.Proofs.Ytbcabomblfehlab.Bo
open Go.RowKit
open Mem Rf
set_option linter.unusedSimpArgs false
set_option linter.unusedVariables false

abbrev Sl3 := Option Addr × Nat × Nat
def slV (x : Sl3) : Value := .slice x.1 x.2.1 x.2.2
/-- A function's cells. -/
structure Fc where
  cl : Int
  kinds : Sl3
  pad : Int
  no : Bool
  f : Int
  t : Int
  lines : Sl3
  code : Sl3
  rel : Sl3
def encFc (x : Fc) : List Value := [.int .i64 x.cl, slV x.kinds, .int .i64 x.pad, .bool x.no, .int .i64 x.f, .int .i64 x.t, slV x.lines, slV x.code, slV x.rel]
/-- Data's cells. -/
structure Dc where
  kd : Int
  words : Sl3
  rel : Sl3
def encDc (x : Dc) : List Value := [.int .i64 x.kd, slV x.words, slV x.rel]
def fc0 : Fc := ⟨0, (none, 0, 0), 0, false, 0, 0, (none, 0, 0), (none, 0, 0), (none, 0, 0)⟩
def dc0 : Dc := ⟨0, (none, 0, 0), (none, 0, 0)⟩
def fcAt (l : List Fc) (i : Nat) : Fc := l.getD i fc0
def dcAt (l : List Dc) (i : Nat) : Dc := l.getD i dc0
theorem fcAt_some {l : List Fc} {i : Nat} (h : i < l.length) : l[i]? = some (fcAt l i) := by unfold fcAt; rw [List.getD_eq_getElem?_getD, List.getElem?_eq_getElem h]; rfl
theorem dcAt_some {l : List Dc} {i : Nat} (h : i < l.length) : l[i]? = some (dcAt l i) := by unfold dcAt; rw [List.getD_eq_getElem?_getD, List.getElem?_eq_getElem h]; rfl

/-- An object: its symbols, functions and data as they lie. -/
structure Oj where
  A : Option Addr
  n : Nat
  c : Nat
  l : List Sy
  fA : Option Addr
  fn : Nat
  fc : Nat
  fl : List Fc
  dA : Option Addr
  dn : Nat
  dc : Nat
  dl : List Dc
def ojV (o : Oj) : Value := .agg #[.slice o.A o.n o.c, .slice o.fA o.fn o.fc, .slice o.dA o.dn o.dc]
structure OjL (w : World) (o : Oj) : Prop where
  sy : SyL w o.A o.n o.c o.l
  fs : Wd 9 encFc w w.heap.size o.fA o.fn o.fc o.fl
  ds : Wd 3 encDc w w.heap.size o.dA o.dn o.dc o.dl
theorem OjL.on {w w' : World} {o : Oj} (h : OjL w o) (hb : Below w.heap.size w w') : OjL w' o := ⟨h.sy.on hb, (h.fs.below hb).more hb.size, (h.ds.below hb).more hb.size⟩

theorem fc_at {w : World} {B : Nat} {A : Option Addr} {n c : Nat} {l : List Fc} (h : Wd 9 encFc w B A n c l) {i : Nat} (hi : i < n) :
    ∃ ad, A = some ad ∧ ad.block < B ∧ w.cell? (ad.add (i * 9)) = some (.int .i64 (fcAt l i).cl) ∧ w.cell? ⟨(ad.add (i * 9)).block, (ad.add (i * 9)).off + 1, none⟩ = some (slV (fcAt l i).kinds) ∧ w.cell? ⟨(ad.add (i * 9)).block, (ad.add (i * 9)).off + 2, none⟩ = some (.int .i64 (fcAt l i).pad) ∧ w.cell? ⟨(ad.add (i * 9)).block, (ad.add (i * 9)).off + 3, none⟩ = some (.bool (fcAt l i).no) ∧ w.cell? ⟨(ad.add (i * 9)).block, (ad.add (i * 9)).off + 4, none⟩ = some (.int .i64 (fcAt l i).f) ∧ w.cell? ⟨(ad.add (i * 9)).block, (ad.add (i * 9)).off + 5, none⟩ = some (.int .i64 (fcAt l i).t) ∧
    w.cell? ⟨(ad.add (i * 9)).block, (ad.add (i * 9)).off + 6, none⟩ = some (slV (fcAt l i).lines) ∧ w.cell? ⟨(ad.add (i * 9)).block, (ad.add (i * 9)).off + 7, none⟩ = some (slV (fcAt l i).code) ∧ w.cell? ⟨(ad.add (i * 9)).block, (ad.add (i * 9)).off + 8, none⟩ = some (slV (fcAt l i).rel) := by
  obtain ⟨ad, e, hb, hc⟩ := h.2.2.2.2 i _ (fcAt_some (by rw [h.1]; exact hi))
  have f : ∀ j, 0 < j → (ad.add (i * 9)).add j = ⟨(ad.add (i * 9)).block, (ad.add (i * 9)).off + j, none⟩ := fun j hj => add_field _ j hj
  refine ⟨ad, e, hb, hc 0 _ rfl, ?_, ?_, ?_, ?_, ?_, ?_, ?_, ?_⟩
  · rw [← f 1 (by omega)]; exact hc 1 _ rfl
  · rw [← f 2 (by omega)]; exact hc 2 _ rfl
  · rw [← f 3 (by omega)]; exact hc 3 _ rfl
  · rw [← f 4 (by omega)]; exact hc 4 _ rfl
  · rw [← f 5 (by omega)]; exact hc 5 _ rfl
  · rw [← f 6 (by omega)]; exact hc 6 _ rfl
  · rw [← f 7 (by omega)]; exact hc 7 _ rfl
  · rw [← f 8 (by omega)]; exact hc 8 _ rfl
theorem dc_at {w : World} {B : Nat} {A : Option Addr} {n c : Nat} {l : List Dc} (h : Wd 3 encDc w B A n c l) {i : Nat} (hi : i < n) :
    ∃ ad, A = some ad ∧ ad.block < B ∧ w.cell? (ad.add (i * 3)) = some (.int .i64 (dcAt l i).kd) ∧ w.cell? ⟨(ad.add (i * 3)).block, (ad.add (i * 3)).off + 1, none⟩ = some (slV (dcAt l i).words) ∧ w.cell? ⟨(ad.add (i * 3)).block, (ad.add (i * 3)).off + 2, none⟩ = some (slV (dcAt l i).rel) := by
  obtain ⟨ad, e, hb, hc⟩ := h.2.2.2.2 i _ (dcAt_some (by rw [h.1]; exact hi))
  have f : ∀ j, 0 < j → (ad.add (i * 3)).add j = ⟨(ad.add (i * 3)).block, (ad.add (i * 3)).off + j, none⟩ := fun j hj => add_field _ j hj
  refine ⟨ad, e, hb, hc 0 _ rfl, ?_, ?_⟩
  · rw [← f 1 (by omega)]; exact hc 1 _ rfl
  · rw [← f 2 (by omega)]; exact hc 2 _ rfl

section
variable {w w' : World} {o : Oj} {ne : ByteArray → Int} {ks kt : Int → Bool} {vf rf de : Nat → Int}
end
end Go.Proofs.Ytbcabomblfehlab.Bo

namespace Go.Proofs.Ytbcabomblfehlab.Bo
open Go.RowKit
open Mem Rf
set_option linter.unusedSimpArgs false
set_option linter.unusedVariables false

def ojC (o : Oj) : Array Value := #[.slice o.A o.n o.c, .slice o.fA o.fn o.fc, .slice o.dA o.dn o.dc]

def tooMany (o : Oj) : Bool := decide (32 < o.n) || decide (12 < o.fn) || decide (8 < o.dn)
end Go.Proofs.Ytbcabomblfehlab.Bo

namespace Go.Proofs.Ytbcabomblfehlab.Bo
open Go.RowKit
open Mem Rf
set_option linter.unusedSimpArgs false
set_option linter.unusedVariables false

def syV (x : Sy) : Value := .agg #[.string x.1, .bool x.2.1, .int .i64 x.2.2.1, .int .i64 x.2.2.2.1, .int .i64 x.2.2.2.2]
def ixV (o : Option Nat) : Int := match o with | some k => (k : Int) | none => -1
theorem find_at {f : Nat → Bool} {n j : Nat} (hj : j < n) (h1 : ∀ k, k < j → f k = false) (h2 : f j = true) : (List.range n).find? f = some j := by
  obtain ⟨d, rfl⟩ := Nat.le.dest (show j + 1 ≤ n by omega)
  rw [List.range_add, List.find?_append, List.range_succ, List.find?_append]
  have : (List.range j).find? f = none := List.find?_eq_none.2 fun y hy => by rw [h1 y (List.mem_range.1 hy)]; simp
  rw [this]
  simp [h2]
theorem find_no {f : Nat → Bool} {n : Nat} (h1 : ∀ k, k < n → f k = false) : (List.range n).find? f = none := List.find?_eq_none.2 fun y hy => by rw [h1 y (List.mem_range.1 hy)]; simp

end Go.Proofs.Ytbcabomblfehlab.Bo

namespace Go.Proofs.Ytbcabomblfehlab.Bo
open Go.RowKit
open Mem Rf
set_option linter.unusedSimpArgs false
set_option linter.unusedVariables false

theorem sx_on {w2 w3 : World} {g : Nat} {a b c d e : Value} (h : Blk w2 g 37 #[a, b, c, d, e]) (hb : Below w2.heap.size w2 w3) :
    Blk w3 g 37 #[a, b, c, d, e] ∧ w3.cell? ⟨g, 0, none⟩ = some a ∧ w3.cell? ⟨g, 1, none⟩ = some b ∧ w3.cell? ⟨g, 2, none⟩ = some c ∧ w3.cell? ⟨g, 3, none⟩ = some d ∧ w3.cell? ⟨g, 4, none⟩ = some e := by
  have hk := Blk.below h hb h.lt
  exact ⟨hk, hk.cell 0, hk.cell 1, hk.cell 2, hk.cell 3, hk.cell 4⟩

section
variable {w : World} {o : Oj} {ne : ByteArray → Int} {ks kt : Int → Bool} {vf rf de : Nat → Int}

def locE (y : Sy) : Int := if y.2.1 = true ∧ y.2.2.2.2 = -1 then 13 else 0
def kindE (ks kt : Int → Bool) (y : Sy) : Int := if (y.2.2.1 = 1 ∧ ks y.2.2.2.1 = true) ∨ (y.2.2.1 = 2 ∧ kt y.2.2.2.1 = true) then 0 else 8
end
end Go.Proofs.Ytbcabomblfehlab.Bo

namespace Go.Proofs.Ytbcabomblfehlab.Bo
open Go.RowKit
open Mem Rf
set_option linter.unusedSimpArgs false
set_option linter.unusedVariables false

theorem cell_on {W w3 : World} {p : Addr} {v : Value} (h : W.cell? p = some v) (b : Below W.heap.size W w3) : w3.cell? p = some v := (b.cell (World.block_lt_of_cell? W _ h)).trans h

def knd (o : Oj) (i : Nat) : Int := if i < o.fn then (fcAt o.fl i).cl else (dcAt o.dl (i - o.fn)).kd
section
variable {w : World} {o : Oj} {ne : ByteArray → Int} {ks kt : Int → Bool} {vf rf de : Nat → Int}
def clsE (o : Oj) (i k : Nat) : Int := if (syAt o.l k).2.2.2.1 = knd o i then 0 else 14

end
end Go.Proofs.Ytbcabomblfehlab.Bo

namespace Go.Proofs.Ytbcabomblfehlab.Bo
open Go.RowKit
open Mem Rf
set_option linter.unusedSimpArgs false
set_option linter.unusedVariables false

def nmT (x : ByteArray) (y : Sy) : Bool := y.1.toList == x.toList
def newT (l : List Sy) (i : Nat) : Bool := ((List.range i).find? fun k => nmT (syAt l i).1 (syAt l k)).isSome
section
variable {w : World} {o : Oj} {ne : ByteArray → Int} {ks kt : Int → Bool} {vf rf de : Nat → Int}
end
end Go.Proofs.Ytbcabomblfehlab.Bo

namespace Go.Proofs.Ytbcabomblfehlab.Bo
open Go.RowKit
open Mem Rf
set_option linter.unusedSimpArgs false
set_option linter.unusedVariables false

def defE (o : Oj) (i : Nat) : Int := if (syAt o.l i).2.2.2.2 = -1 then 0 else if (syAt o.l i).2.2.2.2 = (defn o.l (syAt o.l i).2.2.1 i : Int) ∧ (syAt o.l i).2.2.2.2 < (mostO o.fn o.dn (syAt o.l i).2.2.1 : Int) then 0 else 9
section
variable {w : World} {o : Oj} {ne : ByteArray → Int} {ks kt : Int → Bool} {vf rf de : Nat → Int}
end
end Go.Proofs.Ytbcabomblfehlab.Bo

namespace Go.Proofs.Ytbcabomblfehlab.Bo
open Go.RowKit
open Mem Rf
set_option linter.unusedSimpArgs false
set_option linter.unusedVariables false

def conE (o : Oj) (vf rf de : Nat → Int) (i : Nat) : Int := if i < o.fn then (if vf i = 0 then rf i else vf i) else de (i - o.fn)
section
variable {w : World} {o : Oj} {ne : ByteArray → Int} {ks kt : Int → Bool} {vf rf de : Nat → Int}
end
end Go.Proofs.Ytbcabomblfehlab.Bo

namespace Go.Proofs.Ytbcabomblfehlab.Bo
open Go.RowKit
open Mem Rf
set_option linter.unusedSimpArgs false
set_option linter.unusedVariables false

/-- The first error of k checks. -/
def fstE (E : Nat → Int) (k : Nat) : Int := match (List.range k).find? (fun m => E m != 0) with | some j => E j | none => 0

end Go.Proofs.Ytbcabomblfehlab.Bo

namespace Go.Proofs.Ytbcabomblfehlab.Bo
open Go.RowKit
open Mem Rf
set_option linter.unusedSimpArgs false
set_option linter.unusedVariables false

def e5 (o : Oj) (ne : ByteArray → Int) (ks kt : Int → Bool) (i : Nat) : Nat → Int
  | 0 => ne (syAt o.l i).1
  | 1 => kindE ks kt (syAt o.l i)
  | 2 => if newT o.l i = true then 12 else 0
  | 3 => defE o i
  | _ => locE (syAt o.l i)
def e3 (o : Oj) (vf rf de : Nat → Int) (i : Nat) : Nat → Int
  | 0 => if dfr o.l o.fn i = none then 13 else 0
  | 1 => match dfr o.l o.fn i with | some k => clsE o i k | none => 0
  | _ => conE o vf rf de i
/-- A symbol's error, and an item's. -/
def symE (o : Oj) (ne : ByteArray → Int) (ks kt : Int → Bool) (i : Nat) : Int := fstE (e5 o ne ks kt i) 5
def itmE (o : Oj) (vf rf de : Nat → Int) (i : Nat) : Int := fstE (e3 o vf rf de i) 3

section
variable {w : World} {o : Oj} {ne : ByteArray → Int} {ks kt : Int → Bool} {vf rf de : Nat → Int}
end
end Go.Proofs.Ytbcabomblfehlab.Bo

namespace Go.Proofs.Ytbcabomblfehlab.Bo
open Go.RowKit
open Mem Rf
set_option linter.unusedSimpArgs false
set_option linter.unusedVariables false

def frsI (E : Nat → Int) (n : Nat) : Option Nat := (List.range n).find? fun m => E m != 0
def chkO (tm : Bool) (n it : Nat) (sE iE : Nat → Int) : Int × Int :=
  if tm = true then (19, -1) else match frsI sE n with | some k => (sE k, (k : Int)) | none => match frsI iE it with | some k => (iE k, (k : Int)) | none => (0, -1)
theorem chk_sym {n it : Nat} {sE iE : Nat → Int} {i : Nat} (hi : i < n) (h1 : ∀ m, m < i → (sE m != 0) = false) (h2 : (sE i != 0) = true) : chkO false n it sE iE = (sE i, (i : Int)) := by
  unfold chkO frsI
  rw [if_neg (by simp), find_at hi h1 h2]
theorem chk_itm {n it : Nat} {sE iE : Nat → Int} {i : Nat} (h0 : ∀ m, m < n → (sE m != 0) = false) (hi : i < it) (h1 : ∀ m, m < i → (iE m != 0) = false) (h2 : (iE i != 0) = true) : chkO false n it sE iE = (iE i, (i : Int)) := by
  unfold chkO frsI
  rw [if_neg (by simp), find_no h0]
  dsimp only
  rw [find_at hi h1 h2]
theorem chk_ok {n it : Nat} {sE iE : Nat → Int} (h0 : ∀ m, m < n → (sE m != 0) = false) (h1 : ∀ m, m < it → (iE m != 0) = false) : chkO false n it sE iE = (0, -1) := by
  unfold chkO frsI
  rw [if_neg (by simp), find_no h0]
  dsimp only
  rw [find_no h1]

section
variable {w : World} {o : Oj} {ne : ByteArray → Int} {ks kt : Int → Bool} {vf rf de : Nat → Int}
end
end Go.Proofs.Ytbcabomblfehlab.Bo

namespace Go.Proofs.Ytbcabomblfehlab.Bo
open Go.RowKit
open Mem Rf

theorem frs_zero {E : Nat → Int} {n : Nat} (h : ∀ k, frsI E n = some k → E k = 0) : ∀ k, k < n → E k = 0 := by
  intro k hk
  by_cases h0 : E k = 0
  · exact h0
  · exfalso
    cases hf : frsI E n with
    | none =>
      have := List.find?_eq_none.1 hf k (List.mem_range.2 hk)
      simp [h0] at this
    | some y =>
      have h1 := List.find?_some hf
      rw [h y hf] at h1
      simp at h1
theorem chk_zero {tm : Bool} {n it : Nat} {sE iE : Nat → Int} (h : (chkO tm n it sE iE).1 = 0) : tm = false ∧ (∀ k, k < n → sE k = 0) ∧ ∀ i, i < it → iE i = 0 := by
  unfold chkO at h
  cases tm with
  | true => rw [if_pos rfl] at h; exact absurd h (by decide)
  | false =>
    rw [if_neg (by simp)] at h
    cases hs : frsI sE n with
    | some k =>
      rw [hs] at h
      have h1 := List.find?_some hs
      dsimp only at h
      rw [h] at h1
      simp at h1
    | none =>
      rw [hs] at h
      cases hi : frsI iE it with
      | some k =>
        rw [hi] at h
        have h1 := List.find?_some hi
        dsimp only at h
        rw [h] at h1
        simp at h1
      | none =>
        exact ⟨rfl, frs_zero fun k hk => by rw [hs] at hk; exact absurd hk (by simp), frs_zero fun k hk => by rw [hi] at hk; exact absurd hk (by simp)⟩
theorem fst_zero {E : Nat → Int} {k : Nat} (h : fstE E k = 0) : ∀ m, m < k → E m = 0 := by
  refine frs_zero fun y hy => ?_
  unfold fstE at h
  unfold frsI at hy
  rw [hy] at h
  exact h
theorem fewO {o : Oj} (h : tooMany o = false) : o.n ≤ 32 ∧ o.fn ≤ 12 ∧ o.dn ≤ 8 := by
  unfold tooMany at h
  rw [Bool.or_eq_false_iff, Bool.or_eq_false_iff] at h
  obtain ⟨⟨h1, h2⟩, h3⟩ := h
  have h1 := of_decide_eq_false h1
  have h2 := of_decide_eq_false h2
  have h3 := of_decide_eq_false h3
  omega
theorem right_all {o : Oj} {ne : ByteArray → Int} {ks kt : Int → Bool} {vf rf de : Nat → Int} (hl : o.l.length = o.n)
    (h : (chkO (tooMany o) o.n (o.fn + o.dn) (symE o ne ks kt) (itmE o vf rf de)).1 = 0) :
    (∀ k, k < o.l.length → dfOk o.l o.fn o.dn k) ∧ ∀ i, i < o.fn + o.dn → ∃ k, dfr o.l o.fn i = some k := by
  obtain ⟨_, hs, hi⟩ := chk_zero h
  refine ⟨fun k hk => ?_, fun i hi' => ?_⟩
  · have h5 := fst_zero (hs k (by omega))
    have hk1 : kindE ks kt (syAt o.l k) = 0 := h5 1 (by omega)
    have hd : defE o k = 0 := h5 3 (by omega)
    unfold kindE at hk1
    unfold defE at hd
    unfold dfOk
    constructor
    · by_cases hq : ((syAt o.l k).2.2.1 = 1 ∧ ks (syAt o.l k).2.2.2.1 = true) ∨ ((syAt o.l k).2.2.1 = 2 ∧ kt (syAt o.l k).2.2.2.1 = true)
      · exact hq.elim (fun x => Or.inl x.1) (fun x => Or.inr x.1)
      · rw [if_neg hq] at hk1
        exact absurd hk1 (by decide)
    · by_cases h1 : (syAt o.l k).2.2.2.2 = -1
      · exact Or.inl h1
      · rw [if_neg h1] at hd
        by_cases h2 : (syAt o.l k).2.2.2.2 = (defn o.l (syAt o.l k).2.2.1 k : Int) ∧ (syAt o.l k).2.2.2.2 < (mostO o.fn o.dn (syAt o.l k).2.2.1 : Int)
        · exact Or.inr h2
        · rw [if_neg h2] at hd
          exact absurd hd (by decide)
  · have h3 : (if dfr o.l o.fn i = none then (13 : Int) else 0) = 0 := fst_zero (hi i hi') 0 (by omega)
    by_cases hn : dfr o.l o.fn i = none
    · rw [if_pos hn] at h3
      exact absurd h3 (by decide)
    · exact Option.ne_none_iff_exists'.1 hn
end Go.Proofs.Ytbcabomblfehlab.Bo
