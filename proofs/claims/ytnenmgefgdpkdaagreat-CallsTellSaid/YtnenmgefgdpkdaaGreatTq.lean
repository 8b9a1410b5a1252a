/-
 A PROGRAM of which one number is another one.
-/
import Derived.Test.YtnenmgefgdpkdaaGreatZa
import Derived.Test.YtnenmgefgdpkdaaGreatTc
import Derived.Laws.OwnMore
import Derived.OneCell
namespace Go.Proofs.YtnenmgefgdpkdaaGreat.Bo
open Go.RowKit Go.Maps
open Mem Rf
set_option linter.unusedSimpArgs false
set_option linter.unusedVariables false
theorem own_types {w : World} {B B' n n' k k' : Nat} {E E' : TypeId} {v u : Value} {xs ys : List Value} (h : w.ownsRow B E k v n xs) (h' : w.ownsRow B' E' k' u n' ys) (hE : E ≠ E') {b : Nat} (hb : u.ownBlock = some b) : v.ownBlock ≠ some b := by
 rcases h'.2 with ⟨rfl, _⟩ | ⟨g, cap, cur, rfl, _, hh, _⟩
 ·cases hb
 ·have e : g = b := by simpa [Value.ownBlock] using hb
  subst e
  rcases h.2 with ⟨rfl, _⟩ | ⟨g2, cap2, cur2, rfl, _, hh2, _⟩
  ·intro e; cases e
  ·intro e
   have e2 : g2 = g := by simpa [Value.ownBlock] using e
   subst e2
   rw [hh] at hh2
   injection hh2 with h3
   injection h3 with _ h4 _
   exact hE h4.symm
theorem own_wd {α : Type} {k : Nat} {enc : α → List Value} {w : World} {B n c m : Nat} {e : TypeId} {A : Option Addr} {l : List α} (hk : ∀ x, (enc x).length = k) (hl : l.length = m) (h : w.ownsRow B e k (.slice A n c) m (l.flatMap enc)) : Wd k enc w w.heap.size A n c l := by
 obtain ⟨A', c', e', h'⟩ := wd_own hk hl h
 injection e' with e1 e2 e3
 subst e1 e2 e3
 exact h'
theorem flatI_map (l : List Int) : l.flatMap encI = l.map (Value.int .i64) := by
 induction l with
 | nil => rfl
 | cons a l ih => rw [List.flatMap_cons, ih]; rfl
theorem flatI_set (l : List Int) (b : Nat) (z : Int) : (l.flatMap encI).set b (.int .i64 z) = (l.set b z).flatMap encI := by
 rw [flatI_map, flatI_map, List.map_set]
/-- The row that holds a number. -/
theorem row_at {w : World} {B : Nat} {R : Sl3} {L : List Int} (h : w.ownsRow B 3 1 (slV R) L.length (L.flatMap encI)) {b : Nat} (hb : b < L.length) (z : Int) :
  ∃ g, R.1 = some ⟨g, 0, none⟩ ∧ B ≤ g ∧ g < w.heap.size ∧ w.cell? ⟨g, b, none⟩ = some (.int .i64 (L.getD b 0)) ∧ w.frozen? ⟨g, b, none⟩ = false ∧ (∀ b' t vs, Blk w b' t vs → t ≠ 3 → b' ≠ g) ∧ (w.setCell ⟨g, b, none⟩ (.int .i64 z)).ownsRow B 3 1 (slV R) (L.set b z).length ((L.set b z).flatMap encI) := by
 obtain ⟨r1, r2, r3⟩ := R
 have h2 := h.2
 unfold slV at h2 h ⊢
 dsimp only at h2 h ⊢
 rcases h2 with ⟨e, hn⟩ | ⟨g, cap, cur, e, hB, hg, _⟩
 ·omega
 ·injection e with e1 e2 e3
  subst e1 e2 e3
  have hs := h.stored b (.int .i64 z)
  rw [flatI_set] at hs
  refine ⟨g, rfl, hB, (h.lt g rfl).2, ?_, h.frozenAt b, fun b' t vs hb' ht e => by
   subst e
   have hb' : w.heap[b']? = some (.cells vs t (0, 0)) := hb'
   rw [hg] at hb'
   injection hb' with h3
   injection h3 with _ h4 _
   exact ht h4.symm, by rw [List.length_set]; exact hs.1⟩
  rw [h.cellAt b (by omega)]
  rw [flatI_map, List.getElem?_map, List.getD_eq_getElem?_getD, List.getElem?_eq_getElem hb]; rfl
def setG (g : Gf) (b : Nat) (z : Int) : Gf := ⟨g.file, g.item, g.nm, g.F, g.R, g.refs.set b z⟩
def setH (g : Gd) (b : Nat) (z : Int) : Gd := ⟨g.file, g.item, g.nm, g.D, g.R, g.refs.set b z⟩
def setF (P : Pgm) (a b : Nat) (z : Int) : Pgm := ⟨P.fA, P.fn, P.fc, P.fs.set a (setG (gfAt P.fs a) b z), P.dA, P.dn, P.dc, P.ds, P.entry, P.cs⟩
def setD (P : Pgm) (a b : Nat) (z : Int) : Pgm := ⟨P.fA, P.fn, P.fc, P.fs, P.dA, P.dn, P.dc, P.ds.set a (setH (gdAt P.ds a) b z), P.entry, P.cs⟩
def setE (P : Pgm) (z : Int) : Pgm := ⟨P.fA, P.fn, P.fc, P.fs, P.dA, P.dn, P.dc, P.ds, z, P.cs⟩
theorem gfAt_set {fs : List Gf} {a : Nat} (g : Gf) (ha : a < fs.length) (i : Nat) : gfAt (fs.set a g) i = if a = i then g else gfAt fs i := by
 unfold gfAt
 rw [List.getD_eq_getElem?_getD, List.getElem?_set, List.getD_eq_getElem?_getD]
 by_cases e : a = i
 ·subst e; rw [if_pos rfl, if_pos ha, if_pos rfl]; rfl
 ·rw [if_neg e, if_neg e]
theorem gdAt_set {fs : List Gd} {a : Nat} (g : Gd) (ha : a < fs.length) (i : Nat) : gdAt (fs.set a g) i = if a = i then g else gdAt fs i := by
 unfold gdAt
 rw [List.getD_eq_getElem?_getD, List.getElem?_set, List.getD_eq_getElem?_getD]
 by_cases e : a = i
 ·subst e; rw [if_pos rfl, if_pos ha, if_pos rfl]; rfl
 ·rw [if_neg e, if_neg e]
theorem map_set_same {α β : Type} {f : α → β} {l : List α} {a : Nat} {x : α} (h : ∀ y, l[a]? = some y → f x = f y) : (l.set a x).map f = l.map f := by
 rw [List.map_set]
 apply List.ext_getElem?
 intro i
 rw [List.getElem?_set]
 by_cases e : a = i
 ·subst e
  rw [if_pos rfl]
  split
  ·rename_i hl
   have hl' : a < l.length := by simpa using hl
   rw [List.getElem?_map, List.getElem?_eq_getElem hl', h _ (List.getElem?_eq_getElem hl')]; rfl
  ·rename_i hl
   rw [List.getElem?_eq_none (by omega)]
 ·rw [if_neg e]
theorem flat_map {α : Type} {enc : α → List Value} (l : List α) : l.flatMap enc = (l.map enc).flatten := by rw [List.flatMap_def]
theorem pair_map {α : Type} {f : α → Sl3} {l l' : List α} (h : l.Pairwise fun x y => apart (f x) (f y)) (e : l'.map f = l.map f) : l'.Pairwise fun x y => apart (f x) (f y) := by
 have h1 : (l.map f).Pairwise apart := List.pairwise_map.2 h
 rw [← e] at h1
 exact List.pairwise_map.1 h1
theorem mem_map_R {α : Type} {f : α → Sl3} {l l' : List α} (e : l'.map f = l.map f) {x : α} (hx : x ∈ l') : ∃ y ∈ l, f y = f x := by
 have : f x ∈ l.map f := by rw [← e]; exact List.mem_map_of_mem hx
 obtain ⟨y, hy, e⟩ := List.mem_map.1 this
 exact ⟨y, hy, e⟩
section
variable {w : World} {B : Nat} {P : Pgm}
theorem set_below (h : B ≤ w.heap.size) {g b : Nat} {v : Value} (hg : B ≤ g) : Below B w (w.setCell ⟨g, b, none⟩ v) := ⟨rfl, rfl, rfl, by simp [World.setCell], fun k hk => Below.heap_setCell _ ⟨g, b, none⟩ _ k (show k ≠ g by omega)⟩
set_option maxHeartbeats 1000000 in
theorem PgL.setF (h : PgL w B P) {a b : Nat} (ha : a < P.fn) (hb : b < (gfAt P.fs a).refs.length) (z : Int) :
  ∃ g, (gfAt P.fs a).R.1 = some ⟨g, 0, none⟩ ∧ w.cell? ⟨g, b, none⟩ = some (.int .i64 ((gfAt P.fs a).refs.getD b 0)) ∧ w.frozen? ⟨g, b, none⟩ = false ∧ (∀ ad, P.fA = some ad → ad.block ≠ g) ∧ (∀ b' t vs, Blk w b' t vs → t ≠ 3 → b' ≠ g) ∧ Below B w (w.setCell ⟨g, b, none⟩ (.int .i64 z)) ∧ PgL (w.setCell ⟨g, b, none⟩ (.int .i64 z)) B (setF P a b z) := by
 have hal : a < P.fs.length := by rw [h.fr.1]; exact ha
 have hmem : gfAt P.fs a ∈ P.fs := List.mem_of_getElem? (gfAt_some hal)
 obtain ⟨g, e1, hB, hlt, c1, c2, hty, hrow⟩ := row_at (h.own.fref _ hmem) hb z
 have hob : (slV (gfAt P.fs a).R).ownBlock = some g := by unfold slV; rw [e1]; rfl
 have hbw := set_below (w := w) h.base (g := g) (b := b) (v := .int .i64 z) hB
 have hsz : (w.setCell ⟨g, b, none⟩ (.int .i64 z)).heap.size = w.heap.size := by simp [World.setCell]
 have eF : ∀ i, (gfAt (P.fs.set a (setG (gfAt P.fs a) b z)) i).F = (gfAt P.fs i).F := fun i => by
  rw [gfAt_set _ hal]; split
  ·rename_i e; subst e; rfl
  ·rfl
 have eR : (P.fs.set a (setG (gfAt P.fs a) b z)).map (·.R) = P.fs.map (·.R) := map_set_same fun y hy => by rw [gfAt_some hal] at hy; injection hy with hy; rw [← hy]; rfl
 have eE : (P.fs.set a (setG (gfAt P.fs a) b z)).flatMap encGf = P.fs.flatMap encGf := by
  rw [flat_map, flat_map, map_set_same fun y hy => by rw [gfAt_some hal] at hy; injection hy with hy; rw [← hy]; rfl]
 have oth : ∀ {n : Nat} {xs : List Value} {R : Sl3}, w.ownsRow B 3 1 (slV R) n xs → apart (gfAt P.fs a).R R → (w.setCell ⟨g, b, none⟩ (.int .i64 z)).ownsRow B 3 1 (slV R) n xs := fun ho hap => ownsRow_setCell_other ho (hap g hob) _
 have hfr : (w.setCell ⟨g, b, none⟩ (.int .i64 z)).ownsRow B 49 13 (.slice P.fA P.fn P.fc) (P.fs.set a (setG (gfAt P.fs a) b z)).length ((P.fs.set a (setG (gfAt P.fs a) b z)).flatMap encGf) := by
  rw [eE, List.length_set]
  exact ownsRow_setCell_other h.own.fr (own_types h.own.fr (h.own.fref _ hmem) (by decide) hob) _
 have hdr : (w.setCell ⟨g, b, none⟩ (.int .i64 z)).ownsRow B 87 7 (.slice P.dA P.dn P.dc) P.ds.length (P.ds.flatMap encGd) := ownsRow_setCell_other h.own.dr (own_types h.own.dr (h.own.fref _ hmem) (by decide) hob) _
 refine ⟨g, e1, c1, c2, fun ad e hg => own_types h.own.fr (h.own.fref _ hmem) (by decide) hob (by rw [e]; show some ad.block = some g; rw [hg]), hty, hbw, ⟨⟨hfr, hdr, fun x hx => ?_, fun x hx => oth (h.own.dref x hx) (h.own.apX _ hmem x hx), pair_map (f := Gf.R) h.own.apF eR, h.own.apD, fun x hx d hd => ?_⟩, own_wd encGf_len rfl hfr, own_wd encGd_len rfl hdr, fun i hi => ?_, by rw [hsz]; exact h.base, h.bd, fun i hi => ?_, h.lenD, fun i hi => ?_⟩⟩
 ·obtain ⟨i, hi, rfl⟩ := List.mem_iff_getElem.1 (show x ∈ P.fs.set a (setG (gfAt P.fs a) b z) from hx)
  rw [List.length_set] at hi
  by_cases e : a = i
  ·subst e
   rw [List.getElem_set_self]
   exact hrow
  ·rw [List.getElem_set_ne e]
   have hmi : P.fs[i] ∈ P.fs := List.getElem_mem hi
   refine oth (h.own.fref _ hmi) ?_
   have ea : gfAt P.fs a = P.fs[a] := by have := gfAt_some hal; rw [List.getElem?_eq_getElem hal] at this; injection this with this; exact this.symm
   have e5 : (gfAt P.fs a).R = (P.fs[a]'hal).R := congrArg Gf.R ea
   have key : apart (gfAt P.fs a).R (P.fs[i]'hi).R := by
    rw [e5]
    have hp := List.pairwise_iff_getElem.1 h.own.apF
    rcases Nat.lt_or_gt_of_ne e with h1 | h1
    ·exact hp a i hal hi h1
    ·exact (hp i a hi hal h1).symm
   exact key
 ·obtain ⟨y, hy, e⟩ := mem_map_R eR hx
  rw [← e]
  exact h.own.apX y hy d hd
 ·show By.Wd 5 By.encIn _ B (gfAt (P.fs.set a (setG (gfAt P.fs a) b z)) i).F.code.1 (gfAt (P.fs.set a (setG (gfAt P.fs a) b z)) i).F.code.2.1 (gfAt (P.fs.set a (setG (gfAt P.fs a) b z)) i).F.code.2.2 (P.cs i)
  rw [eF]
  exact By.Wd.below (h.code i hi) hbw
 ·show (gfAt (P.fs.set a (setG (gfAt P.fs a) b z)) i).refs.length = (gfAt (P.fs.set a (setG (gfAt P.fs a) b z)) i).F.code.2.1
  rw [eF, gfAt_set _ hal]
  split
  ·rename_i e; subst e
   show ((gfAt P.fs a).refs.set b z).length = _
   rw [List.length_set]; exact h.lenF a hi
  ·exact h.lenF i hi
 ·show ∃ (w0 : World) (x : By.Fn), FnOk w0 (gfAt (P.fs.set a (setG (gfAt P.fs a) b z)) i).F x
  rw [eF]
  exact h.src i hi
set_option maxHeartbeats 1000000 in
theorem PgL.setD (h : PgL w B P) {a b : Nat} (ha : a < P.dn) (hb : b < (gdAt P.ds a).refs.length) (z : Int) :
  ∃ g, (gdAt P.ds a).R.1 = some ⟨g, 0, none⟩ ∧ w.cell? ⟨g, b, none⟩ = some (.int .i64 ((gdAt P.ds a).refs.getD b 0)) ∧ w.frozen? ⟨g, b, none⟩ = false ∧ (∀ ad, P.dA = some ad → ad.block ≠ g) ∧ (∀ b' t vs, Blk w b' t vs → t ≠ 3 → b' ≠ g) ∧ Below B w (w.setCell ⟨g, b, none⟩ (.int .i64 z)) ∧ PgL (w.setCell ⟨g, b, none⟩ (.int .i64 z)) B (setD P a b z) := by
 have hal : a < P.ds.length := by rw [h.dr.1]; exact ha
 have hmem : gdAt P.ds a ∈ P.ds := List.mem_of_getElem? (gdAt_some hal)
 obtain ⟨g, e1, hB, hlt, c1, c2, hty, hrow⟩ := row_at (h.own.dref _ hmem) hb z
 have hob : (slV (gdAt P.ds a).R).ownBlock = some g := by unfold slV; rw [e1]; rfl
 have hbw := set_below (w := w) h.base (g := g) (b := b) (v := .int .i64 z) hB
 have hsz : (w.setCell ⟨g, b, none⟩ (.int .i64 z)).heap.size = w.heap.size := by simp [World.setCell]
 have eF : ∀ i, (gdAt (P.ds.set a (setH (gdAt P.ds a) b z)) i).D = (gdAt P.ds i).D := fun i => by
  rw [gdAt_set _ hal]; split
  ·rename_i e; subst e; rfl
  ·rfl
 have eR : (P.ds.set a (setH (gdAt P.ds a) b z)).map (·.R) = P.ds.map (·.R) := map_set_same fun y hy => by rw [gdAt_some hal] at hy; injection hy with hy; rw [← hy]; rfl
 have eE : (P.ds.set a (setH (gdAt P.ds a) b z)).flatMap encGd = P.ds.flatMap encGd := by
  rw [flat_map, flat_map, map_set_same fun y hy => by rw [gdAt_some hal] at hy; injection hy with hy; rw [← hy]; rfl]
 have oth : ∀ {n : Nat} {xs : List Value} {R : Sl3}, w.ownsRow B 3 1 (slV R) n xs → apart (gdAt P.ds a).R R → (w.setCell ⟨g, b, none⟩ (.int .i64 z)).ownsRow B 3 1 (slV R) n xs := fun ho hap => ownsRow_setCell_other ho (hap g hob) _
 have hdr : (w.setCell ⟨g, b, none⟩ (.int .i64 z)).ownsRow B 87 7 (.slice P.dA P.dn P.dc) (P.ds.set a (setH (gdAt P.ds a) b z)).length ((P.ds.set a (setH (gdAt P.ds a) b z)).flatMap encGd) := by
  rw [eE, List.length_set]
  exact ownsRow_setCell_other h.own.dr (own_types h.own.dr (h.own.dref _ hmem) (by decide) hob) _
 have hfr : (w.setCell ⟨g, b, none⟩ (.int .i64 z)).ownsRow B 49 13 (.slice P.fA P.fn P.fc) P.fs.length (P.fs.flatMap encGf) := ownsRow_setCell_other h.own.fr (own_types h.own.fr (h.own.dref _ hmem) (by decide) hob) _
 refine ⟨g, e1, c1, c2, fun ad e hg => own_types h.own.dr (h.own.dref _ hmem) (by decide) hob (by rw [e]; show some ad.block = some g; rw [hg]), hty, hbw, ⟨⟨hfr, hdr, fun x hx => oth (h.own.fref x hx) (h.own.apX x hx _ hmem).symm, fun x hx => ?_, h.own.apF, pair_map (f := Gd.R) h.own.apD eR, fun x hx d hd => ?_⟩, own_wd encGf_len rfl hfr, own_wd encGd_len rfl hdr, fun i hi => By.Wd.below (h.code i hi) hbw, by rw [hsz]; exact h.base, h.bd, h.lenF, fun i hi => ?_, h.src⟩⟩
 ·obtain ⟨i, hi, rfl⟩ := List.mem_iff_getElem.1 (show x ∈ P.ds.set a (setH (gdAt P.ds a) b z) from hx)
  rw [List.length_set] at hi
  by_cases e : a = i
  ·subst e
   rw [List.getElem_set_self]
   exact hrow
  ·rw [List.getElem_set_ne e]
   have hmi : P.ds[i] ∈ P.ds := List.getElem_mem hi
   refine oth (h.own.dref _ hmi) ?_
   have ea : gdAt P.ds a = P.ds[a] := by have := gdAt_some hal; rw [List.getElem?_eq_getElem hal] at this; injection this with this; exact this.symm
   have e5 : (gdAt P.ds a).R = (P.ds[a]'hal).R := congrArg Gd.R ea
   have key : apart (gdAt P.ds a).R (P.ds[i]'hi).R := by
    rw [e5]
    have hp := List.pairwise_iff_getElem.1 h.own.apD
    rcases Nat.lt_or_gt_of_ne e with h1 | h1
    ·exact hp a i hal hi h1
    ·exact (hp i a hi hal h1).symm
   exact key
 ·obtain ⟨y, hy, e⟩ := mem_map_R eR hd
  rw [← e]
  exact h.own.apX x hx y hy
 ·show (gdAt (P.ds.set a (setH (gdAt P.ds a) b z)) i).refs.length = (gdAt (P.ds.set a (setH (gdAt P.ds a) b z)) i).D.words.2.1
  rw [eF, gdAt_set _ hal]
  split
  ·rename_i e; subst e
   show ((gdAt P.ds a).refs.set b z).length = _
   rw [List.length_set]; exact h.lenD a hi
  ·exact h.lenD i hi
theorem PgL.setE (h : PgL w B P) (z : Int) : PgL w B (setE P z) := ⟨h.own, h.fr, h.dr, h.code, h.base, h.bd, h.lenF, h.lenD, h.src⟩
theorem PgL.cell2 (h : PgL w B P) {g : Nat} {vs : Array Value} (hb : Blk w g 29 vs) (hg : B ≤ g) (i : Nat) (x : Value) : PgL (w.setCell ⟨g, i, none⟩ x) B P :=
 have hown := h.own.cell2 hb i x
 ⟨hown, own_wd encGf_len rfl hown.fr, own_wd encGd_len rfl hown.dr, fun a ha => By.Wd.below (h.code a ha) (set_below h.base hg), by rw [show (w.setCell ⟨g, i, none⟩ x).heap.size = w.heap.size from by simp [World.setCell]]; exact h.base, h.bd, h.lenF, h.lenD, h.src⟩
theorem far_cell {w : World} {b b' i j : Nat} {x y : Value} (h : w.cell? ⟨b, i, none⟩ = some x) (hb : b ≠ b') : (w.setCell ⟨b', j, none⟩ y).cell? ⟨b, i, none⟩ = some x := (World.cell?_of_block (Below.heap_setCell _ ⟨b', j, none⟩ _ b hb)).trans h
theorem far_blk {w : World} {b b' j : Nat} {t : TypeId} {vs : Array Value} {y : Value} (h : Blk w b t vs) (hb : b ≠ b') : Blk (w.setCell ⟨b', j, none⟩ y) b t vs := (Below.heap_setCell _ ⟨b', j, none⟩ _ b hb).trans h
theorem far_below {B : Nat} {w W : World} {b' j : Nat} {y : Value} (h : Below B w W) (hb : B ≤ b') : Below B w (W.setCell ⟨b', j, none⟩ y) := ⟨h.os, h.tape, h.output, by rw [show (W.setCell ⟨b', j, none⟩ y).heap.size = W.heap.size from by simp [World.setCell]]; exact h.size, fun k hk => (Below.heap_setCell _ ⟨b', j, none⟩ _ k (show k ≠ b' by omega)).trans (h.block k hk)⟩
theorem und {B : Nat} {w W : World} (h : Below B w.drew W) : Below B w W := ⟨h.os, h.tape, h.output, h.size, h.block⟩
end
end Go.Proofs.YtnenmgefgdpkdaaGreat.Bo
