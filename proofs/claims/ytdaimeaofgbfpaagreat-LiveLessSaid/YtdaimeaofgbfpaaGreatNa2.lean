/-
 Na2
-/
import Derived.Test.YtdaimeaofgbfpaaGreatZa2
import Derived.Test.YtdaimeaofgbfpaaGreatLx2
import Derived.Test.YtdaimeaofgbfpaaGreatTq2
set_option linter.unusedSimpArgs false
set_option linter.unusedVariables false
namespace Go.Proofs.YtdaimeaofgbfpaaGreat.Bo
open Go.RowKit Go.Maps
open Mem Rf
def nopI : By.In5 := (1, 0, 0, 0, 0)
def setC (g : Gf) (R : Sl3) (b : Nat) (z : Int) : Gf := ⟨g.file, g.item, g.nm, ⟨g.F.cl, g.F.kinds, g.F.pad, g.F.no, g.F.f, g.F.t, g.F.lines, R, g.F.rel⟩, g.R, g.refs.set b z⟩
def nopP (P : Pgm) (a b : Nat) (R : Sl3) : Pgm := ⟨P.fA, P.fn, P.fc, P.fs.set a (setC (gfAt P.fs a) R b (-1)), P.dA, P.dn, P.dc, P.ds, P.entry, fun i => if i = a then (P.cs a).set b nopI else P.cs i⟩
theorem inAt_set {cs : List By.In5} {b j : Nat} (h : b ≠ j) (x : By.In5) : By.inAt (cs.set b x) j = By.inAt cs j := by
 unfold By.inAt
 rw [List.getD_eq_getElem?_getD, List.getElem?_set, if_neg h, List.getD_eq_getElem?_getD]
theorem inAt_self {cs : List By.In5} {b : Nat} (x : By.In5) (h : b < cs.length) : By.inAt (cs.set b x) b = x := by
 unfold By.inAt
 rw [List.getD_eq_getElem?_getD, List.getElem?_set, if_pos rfl, if_pos h]; rfl
theorem getD_set {l : List Int} {b j : Nat} (h : b ≠ j) (x : Int) : (l.set b x).getD j 0 = l.getD j 0 := by
 rw [List.getD_eq_getElem?_getD, List.getElem?_set, if_neg h, List.getD_eq_getElem?_getD]
theorem gat_less {cs : List By.In5} {rs : List Int} {ns : List Int} {b k : Nat} (hk : k ≤ cs.length) (hn : okN ns nopI = false) {x : Int} (h : x ∈ gatL (cs.set b nopI) (rs.set b (-1)) (okN ns) k) : x ∈ gatL cs rs (okN ns) k := by
 unfold gatL at h ⊢
 simp only [List.mem_map, List.mem_filter, List.mem_range] at h ⊢
 obtain ⟨j, ⟨h1, h2⟩, e⟩ := h
 by_cases hb : b = j
 ·subst hb
  rw [inAt_self _ (by omega), hn] at h2
  cases h2
 ·rw [inAt_set hb] at h2
  rw [getD_set hb] at e
  exact ⟨j, ⟨h1, h2⟩, e⟩
section
variable {P : Pgm} {a b : Nat} {R : Sl3}
theorem gatV_less (hR : R.2.1 = (gfAt P.fs a).F.code.2.1) (ha : a < P.fs.length) (hc : (gfAt P.fs a).F.code.2.1 ≤ (P.cs a).length) {ns : List Int} (hn : okN ns nopI = false) (i : Nat) {x : Int} (h : x ∈ gatV (gfAt (nopP P a b R).fs i) ((nopP P a b R).cs i) ns) : x ∈ gatV (gfAt P.fs i) (P.cs i) ns := by
 unfold gatV nopP at h
 dsimp only at h
 rw [gfAt_set _ ha] at h
 unfold gatV
 by_cases e : a = i
 ·subst e
  rw [if_pos rfl, if_pos rfl] at h
  unfold setC at h
  dsimp only at h
  rw [hR] at h
  exact gat_less (by omega) hn h
 ·rw [if_neg e, if_neg (fun h' => e h'.symm)] at h
  exact h
theorem rise_less {m : Nat} {l l' : List Int} (h : ∀ x, x ∈ l' → x ∈ l) {x : Int} (hx : x ∈ rise m l') : x ∈ rise m l := by
 obtain ⟨c, hc, rfl⟩ := rise_nat hx
 exact mem_riseN.2 ⟨hc, h _ (mem_riseN.1 hx).2⟩
theorem refers_less (hR : R.2.1 = (gfAt P.fs a).F.code.2.1) (ha : a < P.fs.length) (hc : (gfAt P.fs a).F.code.2.1 ≤ (P.cs a).length) (i : Nat) {x : Int} (h : x ∈ refersL (nopP P a b R) i) : x ∈ refersL P i := by
 have k1 : okN [1, 5] nopI = false := by kernel_rfl
 have k2 : okN [2] nopI = false := by kernel_rfl
 have k4 : okN [4] nopI = false := by kernel_rfl
 unfold refersL at h ⊢
 refine rise_less (fun x hx => ?_) h
 rcases List.mem_append.1 hx with h1 | h1
 ·refine List.mem_append.2 (.inl ?_)
  unfold directL at h1 ⊢
  exact rise_less (fun x hx => gatV_less hR ha hc k1 i hx) h1
 ·refine List.mem_append.2 (.inr ?_)
  unfold valuesL at h1 ⊢
  refine rise_less (fun x hx => ?_) h1
  rcases List.mem_append.1 hx with h2 | h2
  ·exact List.mem_append.2 (.inl (gatV_less hR ha hc k2 i h2))
  ·refine List.mem_append.2 (.inr ?_)
   unfold pickL at h2 ⊢
   rw [List.mem_flatMap] at h2 ⊢
   obtain ⟨t, h3, h4⟩ := h2
   refine ⟨t, ?_, h4⟩
   unfold tabsL at h3 ⊢
   exact rise_less (fun x hx => gatV_less hR ha hc k4 i hx) h3
theorem live_less (hR : R.2.1 = (gfAt P.fs a).F.code.2.1) (ha : a < P.fs.length) (hc : (gfAt P.fs a).F.code.2.1 ≤ (P.cs a).length) {v : Nat} (h : liveB (nopP P a b R) v = true) : liveB P v = true := by
 unfold liveB at h ⊢
 refine reach_less (by rw [refG_len, refG_len]; rfl) (fun u hu z hz => ?_) h
 rw [refG_len] at hu
 rw [refG_at (P := nopP P a b R) hu] at hz
 rw [refG_at hu]
 exact refers_less hR ha hc u hz
end
theorem flat_set {α : Type} {k : Nat} {enc : α → List Value} (hk : ∀ x, (enc x).length = k) : ∀ (l : List α) (a j : Nat) (x y : α) (v : Value), l[a]? = some x → j < k → enc y = (enc x).set j v → (l.flatMap enc).set (a * k + j) v = (l.set a y).flatMap enc
 | [], a, j, x, y, v, h, _, _ => by simp at h
 | z :: l, 0, j, x, y, v, h, hj, e => by
  obtain rfl : z = x := by simpa using h
  rw [List.flatMap_cons, List.set_cons_zero, List.flatMap_cons, Nat.zero_mul, Nat.zero_add, List.set_append_left _ _ (by rw [hk]; exact hj), e]
 | z :: l, a + 1, j, x, y, v, h, hj, e => by
  rw [List.flatMap_cons, List.set_cons_succ, List.flatMap_cons, List.set_append_right _ _ (by rw [hk, Nat.add_mul]; omega), hk, show (a + 1) * k + j - k = a * k + j from by rw [Nat.add_mul]; omega, flat_set hk l a j x y v (by simpa using h) hj e]
theorem flat_get {α : Type} {k : Nat} {enc : α → List Value} (hk : ∀ x, (enc x).length = k) : ∀ (l : List α) (a j : Nat) (x : α), l[a]? = some x → j < k → (l.flatMap enc)[a * k + j]? = (enc x)[j]?
 | [], a, j, x, h, _ => by simp at h
 | z :: l, 0, j, x, h, hj => by
  obtain rfl : z = x := by simpa using h
  rw [List.flatMap_cons, Nat.zero_mul, Nat.zero_add, List.getElem?_append_left (by rw [hk]; exact hj)]
 | z :: l, a + 1, j, x, h, hj => by
  rw [List.flatMap_cons, List.getElem?_append_right (by rw [hk, Nat.add_mul]; omega), hk, show (a + 1) * k + j - k = a * k + j from by rw [Nat.add_mul]; omega]
  exact flat_get hk l a j x (by simpa using h) hj
theorem own_addr {w : World} {B E k n c m : Nat} {A : Option Addr} {xs : List Value} (h : w.ownsRow B E k (.slice A n c) m xs) (hm : 0 < m) : ∃ g, A = some ⟨g, 0, none⟩ ∧ B ≤ g ∧ g < w.heap.size := by
 rcases h.2 with ⟨e, e2⟩ | ⟨g, cap, cur, e, hB, _⟩
 ·omega
 ·injection e with e1 _ _
  subst e1
  exact ⟨g, rfl, hB, (h.lt g rfl).2⟩
theorem infoInL : (Tryz.prog.info? 53).map (fun i => (i.zero, i.size, i.bytes)) = some (some (.agg #[.int .i64 0, .int .i64 0, .int .i64 0, .int .i64 0, .int .i64 0]), 5, 40) := by kernel_rfl
def w5 (w : World) (g b : Nat) : World := ((((w.setCell ⟨g, b * 5, none⟩ (.int .i64 1)).setCell ⟨g, b * 5 + 1, none⟩ (.int .i64 0)).setCell ⟨g, b * 5 + 2, none⟩ (.int .i64 0)).setCell ⟨g, b * 5 + 3, none⟩ (.int .i64 0)).setCell ⟨g, b * 5 + 4, none⟩ (.int .i64 0)
theorem set_set_b {l : List By.In5} {b : Nat} (x y : By.In5) : (l.set b x).set b y = l.set b y := List.set_set x
theorem nop_stored {w : World} {B g m c : Nat} {l : List By.In5} (h : w.ownsRow B 53 5 (.slice (some ⟨g, 0, none⟩) m c) m (l.flatMap By.encIn)) (hl : l.length = m) {b : Nat} (hb : b < m) :
  (w5 w g b).ownsRow B 53 5 (.slice (some ⟨g, 0, none⟩) m c) m ((l.set b nopI).flatMap By.encIn) := by
 have hx : l[b]? = some (By.inAt l b) := By.inAt_some (by omega)
 obtain ⟨⟨x1, x2, x3, x4, x5⟩, hxx⟩ : ∃ x, By.inAt l b = x := ⟨_, rfl⟩
 rw [hxx] at hx
 have hk : ∀ x : By.In5, (By.encIn x).length = 5 := fun _ => rfl
 have self : ∀ y : By.In5, (l.set b y)[b]? = some y := fun y => by rw [List.getElem?_set, if_pos rfl, if_pos (by omega)]
 have s0 := (h.stored (b * 5) (.int .i64 1)).1
 rw [show b * 5 = b * 5 + 0 from rfl, flat_set hk l b 0 _ (1, x2, x3, x4, x5) (.int .i64 1) hx (by omega) rfl] at s0
 have s1 := (s0.stored (b * 5 + 1) (.int .i64 0)).1
 rw [flat_set hk (l.set b (1, x2, x3, x4, x5)) b 1 (1, x2, x3, x4, x5) (1, 0, x3, x4, x5) (.int .i64 0) (self _) (by omega) rfl, set_set_b] at s1
 have s2 := (s1.stored (b * 5 + 2) (.int .i64 0)).1
 rw [flat_set hk (l.set b (1, 0, x3, x4, x5)) b 2 (1, 0, x3, x4, x5) (1, 0, 0, x4, x5) (.int .i64 0) (self _) (by omega) rfl, set_set_b] at s2
 have s3 := (s2.stored (b * 5 + 3) (.int .i64 0)).1
 rw [flat_set hk (l.set b (1, 0, 0, x4, x5)) b 3 (1, 0, 0, x4, x5) (1, 0, 0, 0, x5) (.int .i64 0) (self _) (by omega) rfl, set_set_b] at s3
 have s4 := (s3.stored (b * 5 + 4) (.int .i64 0)).1
 rw [flat_set hk (l.set b (1, 0, 0, 0, x5)) b 4 (1, 0, 0, 0, x5) (1, 0, 0, 0, 0) (.int .i64 0) (self _) (by omega) rfl, set_set_b] at s4
 exact s4
theorem nop_cells {w : World} {B g m c : Nat} {l : List By.In5} (h : w.ownsRow B 53 5 (.slice (some ⟨g, 0, none⟩) m c) m (l.flatMap By.encIn)) (hl : l.length = m) {b : Nat} (hb : b < m) (j : Nat) (hj : j < 5) :
  ∃ u, w.cell? ⟨g, b * 5 + j, none⟩ = some u ∧ w.frozen? ⟨g, b * 5 + j, none⟩ = false := by
 refine ⟨(By.encIn (By.inAt l b))[j]'(by show j < 5; exact hj), ?_, h.frozenAt _⟩
 rw [h.cellAt (b * 5 + j) (by omega), flat_get (enc := By.encIn) (k := 5) (fun _ => rfl) l b j _ (By.inAt_some (by omega)) hj]
 exact List.getElem?_eq_getElem _
theorem w5_keeps {w : World} {g b : Nat} : Keeps (fun k => k ≠ g) w (w5 w g b) := by
 unfold w5
 exact ((((((Keeps.refl (fun k => k ≠ g) w).setCell (p := ⟨g, b * 5, none⟩) (by simp) _).setCell (p := ⟨g, b * 5 + 1, none⟩) (by simp) _).setCell (p := ⟨g, b * 5 + 2, none⟩) (by simp) _).setCell (p := ⟨g, b * 5 + 3, none⟩) (by simp) _).setCell (p := ⟨g, b * 5 + 4, none⟩) (by simp) _)
section
variable {w : World} {B : Nat} {P : Pgm}
set_option maxHeartbeats 1000000 in
theorem less_in (h : PgL w B P) (hf : (∀ i, i < P.fn → fewG (gfAt P.fs i)) ∧ (∀ i, i < P.dn → fewD (gdAt P.ds i)) ∧ P.fn ≤ 24 ∧ P.dn ≤ 24) {a b : Nat} (ha : a < P.fn) (hb : b < (gfAt P.fs a).refs.length) {B6 g6 c6 m : Nat} (hm : m = (gfAt P.fs a).F.code.2.1)
  (h6 : w.ownsRow B6 53 5 (.slice (some ⟨g6, 0, none⟩) m c6) m (((P.cs a).set b nopI).flatMap By.encIn)) :
  ∃ gF gR, P.fA = some ⟨gF, 0, none⟩ ∧ (gfAt P.fs a).R.1 = some ⟨gR, 0, none⟩ ∧ gF ≠ gR ∧ gF < w.heap.size ∧ gR < w.heap.size ∧ B ≤ gF ∧ B ≤ gR ∧ (∀ b' t vs, Blk w b' t vs → t ≠ 3 → t ≠ 51 → b' ≠ gF ∧ b' ≠ gR) ∧
   w.cell? ⟨gF, a * 13 + 10, none⟩ = some (slV (gfAt P.fs a).F.code) ∧ w.frozen? ⟨gF, a * 13 + 10, none⟩ = false ∧ w.cell? ⟨gR, b, none⟩ = some (.int .i64 ((gfAt P.fs a).refs.getD b 0)) ∧ w.frozen? ⟨gR, b, none⟩ = false ∧
   PgR ((w.setCell ⟨gF, a * 13 + 10, none⟩ (.slice (some ⟨g6, 0, none⟩) m c6)).setCell ⟨gR, b, none⟩ (.int .i64 (-1))) (nopP P a b (some ⟨g6, 0, none⟩, m, c6)) := by
 have hal : a < P.fs.length := by rw [h.fr.1]; exact ha
 have hmem : gfAt P.fs a ∈ P.fs := List.mem_of_getElem? (gfAt_some hal)
 have hfr := h.own.fr
 have hlen : P.fs.length = P.fn := h.fr.1
 obtain ⟨gF, eF, hBF, hltF⟩ := own_addr hfr (by omega)
 have hrow0 := h.own.fref _ hmem
 obtain ⟨gR, eR, hBR, hltR, c1, c2, hty, _⟩ := row_at hrow0 hb (-1)
 have hobR : (slV (gfAt P.fs a).R).ownBlock = some gR := by unfold slV; rw [eR]; rfl
 have hobF : (Value.slice P.fA P.fn P.fc).ownBlock = some gF := by rw [eF]; rfl
 have hne : gF ≠ gR := fun e => own_types hfr hrow0 (by decide) hobR (by rw [hobF, e])
 have h6F : (Value.slice (some ⟨g6, 0, none⟩) m c6).ownBlock ≠ some gF := own_types h6 hfr (by decide) hobF
 have h6R : (Value.slice (some ⟨g6, 0, none⟩) m c6).ownBlock ≠ some gR := own_types h6 hrow0 (by decide) hobR
 obtain ⟨W8, hW8⟩ : ∃ W8, w.setCell ⟨gF, a * 13 + 10, none⟩ (.slice (some ⟨g6, 0, none⟩) m c6) = W8 := ⟨_, rfl⟩
 have hfr8 : W8.ownsRow B 51 13 (.slice P.fA P.fn P.fc) (P.fs.set a (setC (gfAt P.fs a) (some ⟨g6, 0, none⟩, m, c6) b (-1))).length ((P.fs.set a (setC (gfAt P.fs a) (some ⟨g6, 0, none⟩, m, c6) b (-1))).flatMap encGf) := by
  have hfr' := hfr
  rw [eF, hlen] at hfr'
  rw [eF]
  have := (hfr'.stored (a * 13 + 10) (.slice (some ⟨g6, 0, none⟩) m c6)).1
  rw [flat_set encGf_len P.fs a 10 (gfAt P.fs a) (setC (gfAt P.fs a) (some ⟨g6, 0, none⟩, m, c6) b (-1)) (.slice (some ⟨g6, 0, none⟩) m c6) (gfAt_some hal) (by omega) rfl, hW8] at this
  rw [List.length_set, hlen]
  exact this
 have oth8 : ∀ {B' n k : Nat} {E : TypeId} {u : Value} {xs : List Value}, w.ownsRow B' E k u n xs → E ≠ 51 → W8.ownsRow B' E k u n xs := fun ho hE => by
  rw [← hW8]
  exact ownsRow_setCell_other ho (own_types ho hfr hE hobF) _
 have hrow8 := oth8 hrow0 (by decide)
 obtain ⟨g', e', _, _, _, _, _, hrow9⟩ := row_at hrow8 hb (-1)
 obtain rfl : gR = g' := by rw [eR] at e'; injection e' with e'; injection e'
 obtain ⟨W9, hW9⟩ : ∃ W9, W8.setCell ⟨gR, b, none⟩ (.int .i64 (-1)) = W9 := ⟨_, rfl⟩
 rw [hW9] at hrow9
 have oth9 : ∀ {B' n k : Nat} {E : TypeId} {u : Value} {xs : List Value}, W8.ownsRow B' E k u n xs → E ≠ 3 → W9.ownsRow B' E k u n xs := fun ho hE => by
  rw [← hW9]
  exact ownsRow_setCell_other ho (own_types ho hrow8 hE hobR) _
 have ap9 : ∀ {n : Nat} {xs : List Value} {R : Sl3}, W8.ownsRow B 3 1 (slV R) n xs → apart (gfAt P.fs a).R R → W9.ownsRow B 3 1 (slV R) n xs := fun ho hap => by
  rw [← hW9]
  exact ownsRow_setCell_other ho (hap gR hobR) _
 have hk9 : ∀ p : Addr, p.block < B → W9.cell? p = w.cell? p := fun p hp => by
  rw [← hW9, ← hW8]
  exact (World.cell?_of_block (Below.heap_setCell _ ⟨gR, b, none⟩ _ p.block (show p.block ≠ gR by omega))).trans (World.cell?_of_block (Below.heap_setCell _ ⟨gF, a * 13 + 10, none⟩ _ p.block (show p.block ≠ gF by omega)))
 have hs9 : W9.heap.size = w.heap.size := by rw [← hW9, ← hW8]; simp [World.setCell]
 refine ⟨gF, gR, eF, eR, hne, hltF, hltR, hBF, hBR, fun b' t vs hb' ht htF => ⟨fun e => ?_, hty b' t vs hb' ht⟩, ?_, ?_, c1, c2, ?_⟩
 ·subst e
  rcases hfr.2 with ⟨e, _⟩ | ⟨g, cap, cur, e, _, hg, _⟩
  ·rw [eF] at e; cases e
  ·rw [eF] at e
   injection e with e1 _ _
   injection e1 with e1
   injection e1 with e1
   subst e1
   have hb' : w.heap[b']? = some (.cells vs t (0, 0)) := hb'
   rw [hg] at hb'
   injection hb' with h3
   injection h3 with _ h4 _
   exact htF h4.symm
 ·have hfr' := hfr
  rw [eF, hlen] at hfr'
  rw [hfr'.cellAt (a * 13 + 10) (by omega), flat_get encGf_len P.fs a 10 _ (gfAt_some hal) (by omega)]
  rfl
 ·have hfr' := hfr
  rw [eF, hlen] at hfr'
  exact hfr'.frozenAt _
 ·rw [hW8, hW9]
  refine ⟨(show Wd 13 encGf W9 W9.heap.size P.fA P.fn P.fc (P.fs.set a (setC (gfAt P.fs a) (some ⟨g6, 0, none⟩, m, c6) b (-1))) from own_wd encGf_len (m := P.fn) (by rw [List.length_set, hlen]) (by have := oth9 hfr8 (by decide); rw [List.length_set, hlen] at this; exact this)), own_wd encGd_len rfl (oth9 (oth8 h.own.dr (by decide)) (by decide)), fun i hi => ?_, fun i hi => ?_, hf.2.2⟩
  ·unfold nopP
   dsimp only
   rw [gfAt_set _ hal]
   by_cases e : a = i
   ·subst e
    rw [if_pos rfl, if_pos rfl]
    obtain ⟨e1, e2⟩ := own_slV hrow9
    refine ⟨?_, e2, ⟨by show m ≤ 80; rw [hm]; exact (hf.1 a ha).1, (hf.1 a ha).2.1⟩, fun k => ?_⟩
    ·have := own_wd (enc := By.encIn) (k := 5) (fun _ => rfl) (by rw [List.length_set, (h.code a ha).1, hm]) (oth9 (oth8 h6 (by decide)) (by decide))
     exact this
    ·by_cases hbk : b = k
     ·subst hbk
      by_cases hl : b < (P.cs a).length
      ·rw [inAt_self _ hl]; exact ⟨by decide, by decide⟩
      ·have : By.inAt ((P.cs a).set b nopI) b = (0, 0, 0, 0, 0) := by
        unfold By.inAt
        rw [List.getD_eq_getElem?_getD, List.getElem?_eq_none (by rw [List.length_set]; omega)]; rfl
       rw [this]; exact ⟨by decide, by decide⟩
     ·rw [inAt_set hbk]; exact h.bd a ha k
   ·rw [if_neg e, if_neg (fun h' => e h'.symm)]
    have hmi : gfAt P.fs i ∈ P.fs := List.mem_of_getElem? (gfAt_some (by rw [h.fr.1]; exact hi))
    have hil : i < P.fs.length := by rw [hlen]; exact hi
    have ea : gfAt P.fs a = P.fs[a] := by have := gfAt_some hal; rw [List.getElem?_eq_getElem hal] at this; injection this with this; exact this.symm
    have ei : gfAt P.fs i = P.fs[i] := by have := gfAt_some hil; rw [List.getElem?_eq_getElem hil] at this; injection this with this; exact this.symm
    have hap : apart (gfAt P.fs a).R (gfAt P.fs i).R := by
     rw [ea, ei]
     have hp := List.pairwise_iff_getElem.1 h.own.apF
     rcases Nat.lt_or_gt_of_ne e with h1 | h1
     ·exact hp a i hal hil h1
     ·exact (hp i a hil hal h1).symm
    obtain ⟨e1, e2⟩ := own_slV (ap9 (oth8 (h.own.fref _ hmi) (by decide)) hap)
    exact ⟨By.Wd.more ((h.code i hi).keep hk9) (by rw [hs9]; exact h.base), e2, ⟨(hf.1 i hi).1, (hf.1 i hi).2.1⟩, h.bd i hi⟩
  ·have hmi : gdAt P.ds i ∈ P.ds := List.mem_of_getElem? (gdAt_some (by rw [h.dr.1]; exact hi))
   obtain ⟨e1, e2⟩ := own_slV (ap9 (oth8 (h.own.dref _ hmi) (by decide)) (h.own.apX _ hmem _ hmi))
   exact ⟨e2, (hf.2.1 i hi).1, by show (gdAt P.ds i).R.2.1 ≤ (gdAt P.ds i).D.words.2.1; rw [e1, h.lenD i hi]; exact Nat.le_refl _⟩
end
end Go.Proofs.YtdaimeaofgbfpaaGreat.Bo
