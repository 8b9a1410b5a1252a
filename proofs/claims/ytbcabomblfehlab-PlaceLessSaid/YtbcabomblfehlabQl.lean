/-
  PROGRAMS TO BE READ. WALK of layer 25's document: refs.
-/
import Derived.Test.YtbcabomblfehlabQk
namespace Go.Proofs.Ytbcabomblfehlab.Bo
open Go.RowKit Go.Maps
open Mem Rf
set_option linter.unusedSimpArgs false
set_option linter.unusedVariables false

def gf0 : Gf := ⟨0, 0, ⟨#[]⟩, fc0, (none, 0, 0), []⟩
def gd0 : Gd := ⟨0, 0, ⟨#[]⟩, dc0, (none, 0, 0), []⟩
def gfAt (l : List Gf) (i : Nat) : Gf := l.getD i gf0
def gdAt (l : List Gd) (i : Nat) : Gd := l.getD i gd0
theorem gfAt_some {l : List Gf} {i : Nat} (h : i < l.length) : l[i]? = some (gfAt l i) := by unfold gfAt; rw [List.getD_eq_getElem?_getD, List.getElem?_eq_getElem h]; rfl
theorem gdAt_some {l : List Gd} {i : Nat} (h : i < l.length) : l[i]? = some (gdAt l i) := by unfold gdAt; rw [List.getD_eq_getElem?_getD, List.getElem?_eq_getElem h]; rfl
/-- A function's code and numbers, to be read. -/
structure GfR (w : World) (g : Gf) (cs : List By.In5) : Prop where
  code : By.InL w g.F.code.1 g.F.code.2.1 g.F.code.2.2 cs
  refs : IL w g.R.1 g.R.2.1 g.R.2.2 g.refs
  few : g.F.code.2.1 ≤ 80 ∧ g.R.2.1 ≤ 80
  bd : ∀ k, -9223372036854775808 ≤ (By.inAt cs k).1 ∧ (By.inAt cs k).1 ≤ 9223372036854775807
structure GdR (w : World) (g : Gd) : Prop where
  refs : IL w g.R.1 g.R.2.1 g.R.2.2 g.refs
  few : g.D.words.2.1 ≤ 80 ∧ g.R.2.1 ≤ g.D.words.2.1
theorem GfR.on {w w' : World} {g : Gf} {cs : List By.In5} (h : GfR w g cs) (hb : Below w.heap.size w w') : GfR w' g cs := ⟨(By.Wd.below h.code hb).more hb.size, h.refs.on hb, h.few, h.bd⟩
theorem GdR.on {w w' : World} {g : Gd} (h : GdR w g) (hb : Below w.heap.size w w') : GdR w' g := ⟨h.refs.on hb, h.few⟩
/-- A program to be read. -/
structure Pgm where
  fA : Option Addr
  fn : Nat
  fc : Nat
  fs : List Gf
  dA : Option Addr
  dn : Nat
  dc : Nat
  ds : List Gd
  entry : Int
  cs : Nat → List By.In5
def pgV (P : Pgm) : Value := .agg #[.slice P.fA P.fn P.fc, .slice P.dA P.dn P.dc, .int .i64 P.entry]
structure PgR (w : World) (P : Pgm) : Prop where
  fr : Wd 13 encGf w w.heap.size P.fA P.fn P.fc P.fs
  dr : Wd 7 encGd w w.heap.size P.dA P.dn P.dc P.ds
  fns : ∀ i, i < P.fn → GfR w (gfAt P.fs i) (P.cs i)
  dats : ∀ i, i < P.dn → GdR w (gdAt P.ds i)
  few : P.fn ≤ 24 ∧ P.dn ≤ 24
theorem PgR.on {w w' : World} {P : Pgm} (h : PgR w P) (hb : Below w.heap.size w w') : PgR w' P := ⟨(h.fr.below hb).more hb.size, (h.dr.below hb).more hb.size, fun i hi => (h.fns i hi).on hb, fun i hi => (h.dats i hi).on hb, h.few⟩

/-- The cells of a program's function, at the addresses that the walk reckons. -/
theorem gf_at {w : World} {B : Nat} {A : Option Addr} {n c : Nat} {l : List Gf} (h : Wd 13 encGf w B A n c l) {i : Nat} (hi : i < n) :
    ∃ ad, A = some ad ∧ ad.block < B ∧ w.cell? (ad.add (i * 13)) = some (.int .i64 ((gfAt l i).file : Int)) ∧ ∀ j u, (encGf (gfAt l i))[j + 1]? = some u → w.cell? ⟨(ad.add (i * 13)).block, (ad.add (i * 13)).off + (j + 1), none⟩ = some u := by
  obtain ⟨ad, e, hb, hc⟩ := h.2.2.2.2 i _ (gfAt_some (by rw [h.1]; exact hi))
  exact ⟨ad, e, hb, hc 0 _ rfl, fun j u hu => by rw [← add_field _ (j + 1) (by omega)]; exact hc (j + 1) u hu⟩
theorem gd_at {w : World} {B : Nat} {A : Option Addr} {n c : Nat} {l : List Gd} (h : Wd 7 encGd w B A n c l) {i : Nat} (hi : i < n) :
    ∃ ad, A = some ad ∧ ad.block < B ∧ w.cell? (ad.add (i * 7)) = some (.int .i64 ((gdAt l i).file : Int)) ∧ ∀ j u, (encGd (gdAt l i))[j + 1]? = some u → w.cell? ⟨(ad.add (i * 7)).block, (ad.add (i * 7)).off + (j + 1), none⟩ = some u := by
  obtain ⟨ad, e, hb, hc⟩ := h.2.2.2.2 i _ (gdAt_some (by rw [h.1]; exact hi))
  exact ⟨ad, e, hb, hc 0 _ rfl, fun j u hu => by rw [← add_field _ (j + 1) (by omega)]; exact hc (j + 1) u hu⟩
/-- An instruction's cells. -/
theorem in_at {w : World} {A : Option Addr} {n c : Nat} {cs : List By.In5} (h : By.InL w A n c cs) {i : Nat} (hi : i < n) :
    ∃ ad, A = some ad ∧ ad.block < w.heap.size ∧ w.cell? (ad.add (i * 5)) = some (.int .i64 (By.inAt cs i).1) ∧ w.cell? ⟨(ad.add (i * 5)).block, (ad.add (i * 5)).off + 1, none⟩ = some (.int .i64 (By.inAt cs i).2.1) ∧ w.cell? ⟨(ad.add (i * 5)).block, (ad.add (i * 5)).off + 2, none⟩ = some (.int .i64 (By.inAt cs i).2.2.1) ∧ w.cell? ⟨(ad.add (i * 5)).block, (ad.add (i * 5)).off + 3, none⟩ = some (.int .i64 (By.inAt cs i).2.2.2.1) ∧ w.cell? ⟨(ad.add (i * 5)).block, (ad.add (i * 5)).off + 4, none⟩ = some (.int .i64 (By.inAt cs i).2.2.2.2) := by
  have hl : i < cs.length := by rw [h.1]; exact hi
  obtain ⟨ad, e, hb, hc⟩ := h.2.2.2.2 i (By.inAt cs i) (by unfold By.inAt; rw [List.getD_eq_getElem?_getD, List.getElem?_eq_getElem hl]; rfl)
  have f : ∀ j, 0 < j → (ad.add (i * 5)).add j = ⟨(ad.add (i * 5)).block, (ad.add (i * 5)).off + j, none⟩ := fun j hj => add_field _ j hj
  refine ⟨ad, e, hb, hc 0 _ rfl, ?_, ?_, ?_, ?_⟩
  · rw [← f 1 (by omega)]; exact hc 1 _ rfl
  · rw [← f 2 (by omega)]; exact hc 2 _ rfl
  · rw [← f 3 (by omega)]; exact hc 3 _ rfl
  · rw [← f 4 (by omega)]; exact hc 4 _ rfl

def gatV (g : Gf) (cs : List By.In5) (ns : List Int) : List Int := gatL cs g.refs (okN ns) (min g.F.code.2.1 g.R.2.1)

end Go.Proofs.Ytbcabomblfehlab.Bo
