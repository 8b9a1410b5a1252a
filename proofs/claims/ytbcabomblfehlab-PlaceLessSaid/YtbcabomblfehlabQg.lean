/-
  PROGRAMS IN MEMORY. WALK of layer 24's document: name.
-/
import Derived.Test.YtbcabomblfehlabQf
namespace Go.Proofs.Ytbcabomblfehlab.Bo
open Go.RowKit Go.Maps
open Mem Rf
set_option linter.unusedSimpArgs false
set_option linter.unusedVariables false

/-- A function of a program, as it lies, and to what its instructions refer. -/
structure Gf where
  file : Nat
  item : Nat
  nm : ByteArray
  F : Fc
  R : Sl3
  refs : List Int
structure Gd where
  file : Nat
  item : Nat
  nm : ByteArray
  D : Dc
  R : Sl3
  refs : List Int
def encGf (g : Gf) : List Value := [.int .i64 (g.file : Int), .int .i64 (g.item : Int), .string g.nm, .int .i64 g.F.cl, slV g.F.kinds, .int .i64 g.F.pad, .bool g.F.no, .int .i64 g.F.f, .int .i64 g.F.t, slV g.F.lines, slV g.F.code, slV g.F.rel, slV g.R]
def encGd (g : Gd) : List Value := [.int .i64 (g.file : Int), .int .i64 (g.item : Int), .string g.nm, .int .i64 g.D.kd, slV g.D.words, slV g.D.rel, slV g.R]
theorem encGf_len (g : Gf) : (encGf g).length = 13 := rfl
theorem encGd_len (g : Gd) : (encGd g).length = 7 := rfl

/-- A program that is being made: the result's box, the program's box, the rows of functions and of data, each one's row of numbers. -/
structure PgI (w0 w : World) (fs : List Gf) (ds : List Gd) (v1 v2 : Value) : Prop where
  low : Below w0.heap.size w0 w
  res : Blk w w0.heap.size 30 #[.slice none 0 0, .slice none 0 0, .int .i64 0]
  box : Blk w (w0.heap.size + 1) 30 #[v1, v2, .int .i64 0]
  fr : w.ownsRow (w0.heap.size + 2) 75 13 v1 fs.length (fs.flatMap encGf)
  dr : w.ownsRow (w0.heap.size + 2) 51 7 v2 ds.length (ds.flatMap encGd)
  fref : ∀ g ∈ fs, w.ownsRow (w0.heap.size + 2) 3 1 (slV g.R) g.refs.length (g.refs.flatMap encI)
  dref : ∀ g ∈ ds, w.ownsRow (w0.heap.size + 2) 3 1 (slV g.R) g.refs.length (g.refs.flatMap encI)
section
variable {w0 w w' : World} {fs : List Gf} {ds : List Gd} {v1 v2 : Value}
theorem own_on {base n k : Nat} {E : TypeId} {v : Value} {xs : List Value} (h : w.ownsRow base E k v n xs) (hb : Below w.heap.size w w') : w'.ownsRow base E k v n xs := own_keep1 h fun g _ hg _ => hb.block g hg
theorem PgI.later (h : PgI w0 w fs ds v1 v2) (hb : Below w.heap.size w w') : PgI w0 w' fs ds v1 v2 where
  low := to_ h.low hb
  res := h.res.below hb h.res.lt
  box := h.box.below hb h.box.lt
  fr := own_on h.fr hb
  dr := own_on h.dr hb
  fref := fun g hg => own_on (h.fref g hg) hb
  dref := fun g hg => own_on (h.dref g hg) hb
theorem own_lower {B B' n k : Nat} {E : TypeId} {v : Value} {xs : List Value} (h : w.ownsRow B E k v n xs) (hB : B' ≤ B) : w.ownsRow B' E k v n xs := by
  obtain ⟨h1, h2⟩ := h
  refine ⟨h1, ?_⟩
  rcases h2 with h2 | ⟨g, cap, cur, hv, hb, r⟩
  · exact .inl h2
  · exact .inr ⟨g, cap, cur, hv, by omega, r⟩
/-- Rows of two types are two rows: one that grows leaves the other. -/
theorem own_apart {B B' n n' k k' : Nat} {E E' : TypeId} {v u : Value} {xs ys : List Value} (h : w.ownsRow B E k v n xs) (h' : w.ownsRow B' E' k' u n' ys) (hE : E ≠ E') (hg : w.grownBy w' u.ownBlock) : w'.ownsRow B E k v n xs := by
  refine h.kept hg ?_
  rcases h.2 with ⟨rfl, _⟩ | ⟨g, cap, cur, rfl, _, hh, _⟩
  · exact .inl rfl
  · refine .inr fun e => ?_
    rcases h'.2 with ⟨rfl, _⟩ | ⟨g', cap', cur', rfl, _, hh', _⟩
    · cases e
    · have e2 : g = g' := by simpa [Value.ownBlock] using e
      subst e2
      rw [hh] at hh'
      injection hh' with hh'
      injection hh' with _ e3 _
      exact hE e3
theorem own_cell {B n k : Nat} {E : TypeId} {v : Value} {xs : List Value} (h : w.ownsRow B E k v n xs) (p : Addr) (x : Value) (hp : p.block < B) : (w.setCell p x).ownsRow B E k v n xs := own_keep1 h fun g hg _ _ => Below.heap_setCell _ p _ g (by omega)
theorem blk_grown {b : Nat} {t : TypeId} {vs : Array Value} (h : Blk w b t vs) {row : Option Nat} (hg : w.grownBy w' row) (hr : row ≠ some b) : Blk w' b t vs := (hg.block b h.lt (fun e => hr e.symm)).trans h
theorem own_ne {B n k : Nat} {E : TypeId} {v : Value} {xs : List Value} (h : w.ownsRow B E k v n xs) {b : Nat} (hb : b < B) : v.ownBlock ≠ some b := fun e => by
  have := (h.lt b e).1
  omega
theorem PgI.addF (h : PgI w0 w fs ds v1 v2) (g : Gf) (hr : w.ownsRow (w0.heap.size + 2) 3 1 (slV g.R) g.refs.length (g.refs.flatMap encI)) (o : Obj) {v' : Value} {w6 : World} (h2 : w6.ownsRow (w0.heap.size + 2) 75 13 v' (fs.length + 1) (fs.flatMap encGf ++ encGf g)) (h3 : (w.alloc o).grownBy w6 v1.ownBlock) :
    PgI w0 (w6.setCell ⟨w0.heap.size + 1, 0, none⟩ v') (fs ++ [g]) ds v' v2 := by
  have hA := h.later (alloc_ w o)
  have hr' := own_on hr (alloc_ w o)
  have hre : (fs ++ [g]).flatMap encGf = fs.flatMap encGf ++ encGf g := by rw [List.flatMap_append]; simp
  refine ⟨?_, ?_, ?_, ?_, ?_, ?_, ?_⟩
  · exact (hA.low.grown h3 hA.low.size (fun k e => by have := (hA.fr.lt k e).1; omega)).setCell (p := ⟨w0.heap.size + 1, 0, none⟩) (by show w0.heap.size ≤ w0.heap.size + 1; omega) _
  · exact (Below.heap_setCell _ ⟨w0.heap.size + 1, 0, none⟩ _ _ (by show w0.heap.size ≠ w0.heap.size + 1; omega)).trans (blk_grown hA.res h3 (own_ne hA.fr (by omega)))
  · exact (blk_grown hA.box h3 (own_ne hA.fr (by omega))).stored 0 v'
  · rw [hre, List.length_append]
    exact own_cell h2 _ _ (by show w0.heap.size + 1 < w0.heap.size + 2; omega)
  · exact own_cell (own_apart hA.dr hA.fr (by decide) h3) _ _ (by show w0.heap.size + 1 < w0.heap.size + 2; omega)
  · intro x hx
    rcases List.mem_append.1 hx with hx | hx
    · exact own_cell (own_apart (hA.fref x hx) hA.fr (by decide) h3) _ _ (by show w0.heap.size + 1 < w0.heap.size + 2; omega)
    · obtain rfl := List.mem_singleton.1 hx
      exact own_cell (own_apart hr' hA.fr (by decide) h3) _ _ (by show w0.heap.size + 1 < w0.heap.size + 2; omega)
  · intro x hx
    exact own_cell (own_apart (hA.dref x hx) hA.fr (by decide) h3) _ _ (by show w0.heap.size + 1 < w0.heap.size + 2; omega)
theorem PgI.addD (h : PgI w0 w fs ds v1 v2) (g : Gd) (hr : w.ownsRow (w0.heap.size + 2) 3 1 (slV g.R) g.refs.length (g.refs.flatMap encI)) (o : Obj) {v' : Value} {w6 : World} (h2 : w6.ownsRow (w0.heap.size + 2) 51 7 v' (ds.length + 1) (ds.flatMap encGd ++ encGd g)) (h3 : (w.alloc o).grownBy w6 v2.ownBlock) :
    PgI w0 (w6.setCell ⟨w0.heap.size + 1, 1, none⟩ v') fs (ds ++ [g]) v1 v' := by
  have hA := h.later (alloc_ w o)
  have hr' := own_on hr (alloc_ w o)
  have hre : (ds ++ [g]).flatMap encGd = ds.flatMap encGd ++ encGd g := by rw [List.flatMap_append]; simp
  refine ⟨?_, ?_, ?_, ?_, ?_, ?_, ?_⟩
  · exact (hA.low.grown h3 hA.low.size (fun k e => by have := (hA.dr.lt k e).1; omega)).setCell (p := ⟨w0.heap.size + 1, 1, none⟩) (by show w0.heap.size ≤ w0.heap.size + 1; omega) _
  · exact (Below.heap_setCell _ ⟨w0.heap.size + 1, 1, none⟩ _ _ (by show w0.heap.size ≠ w0.heap.size + 1; omega)).trans (blk_grown hA.res h3 (own_ne hA.dr (by omega)))
  · exact (blk_grown hA.box h3 (own_ne hA.dr (by omega))).stored 1 v'
  · exact own_cell (own_apart hA.fr hA.dr (by decide) h3) _ _ (by show w0.heap.size + 1 < w0.heap.size + 2; omega)
  · rw [hre, List.length_append]
    exact own_cell h2 _ _ (by show w0.heap.size + 1 < w0.heap.size + 2; omega)
  · intro x hx
    exact own_cell (own_apart (hA.fref x hx) hA.dr (by decide) h3) _ _ (by show w0.heap.size + 1 < w0.heap.size + 2; omega)
  · intro x hx
    rcases List.mem_append.1 hx with hx | hx
    · exact own_cell (own_apart (hA.dref x hx) hA.dr (by decide) h3) _ _ (by show w0.heap.size + 1 < w0.heap.size + 2; omega)
    · obtain rfl := List.mem_singleton.1 hx
      exact own_cell (own_apart hr' hA.dr (by decide) h3) _ _ (by show w0.heap.size + 1 < w0.heap.size + 2; omega)
end

set_option maxRecDepth 100000 in
set_option maxHeartbeats 4000000 in
theorem name_any (w : World) (o : Oj) (h : OjL w o) (hf : o.n ≤ 1000 ∧ o.fn ≤ 1000 ∧ o.dn ≤ 1000) (i : Nat) (hi : i < o.fn + o.dn) (k : Nat) (hd : dfr o.l o.fn i = some k) :
    Calls Try.prog 55 #[ojV o, .int .i64 (i : Int)] w fun e w' => e = .returned (.string (syAt o.l k).1) ∧ Below w.heap.size w w' := by
  have HD := Lib.hid (fun W (hb : Below w.heap.size w W) => ddefiner W o (h.on hb) hf i hi)
  have hk : k < o.n := by have := (dfr_some hd).1; rw [h.sy.1] at this; exact this
  rw [hd] at HD
  unfold ixV at HD
  dsimp only at HD
  obtain ⟨ad, ea, _, s0, -⟩ := h.sy.at_ hk
  have hz := World.block_lt_of_cell? w _ s0
  have hk0 : (0 : Int) ≤ (k : Int) := by omega
  have hk1 : (k : Int) < (o.n : Int) := by omega
  clear h hd hk
  obtain ⟨A, n, c, l, fA, fn, fc, fl, dA, dn, dc, dl⟩ := o
  unfold ojV at HD ⊢
  dsimp only at HD ea s0 hk1 ⊢
  subst ea
  obtain ⟨y0, hy⟩ : ∃ y, (syAt l k).1 = y := ⟨_, rfl⟩
  rw [hy] at s0 ⊢
  clear hy
  have HB1 := Lib.hid (alloc_ w (.cells #[.slice (some ad) n c, .slice fA fn fc, .slice dA dn dc] 82))
  obtain ⟨-, c0, c1, c2⟩ := bx3 (w := w) (t := 82) (a := .slice (some ad) n c) (b := .slice fA fn fc) (c := .slice dA dn dc) (Below.refl _ _)
  replace s0 := cell_on s0 HB1.out
  go_enter Try.func55, Try.ntmps55
  go_wp2_with fail
  refine wp_region_noPanic ?_
  refine wp_region_held_drew (S := fun W => W.cell? ⟨w.heap.size, 0, none⟩ = some (.slice (some ad) n c) ∧ W.cell? ⟨w.heap.size, 1, none⟩ = some (.slice fA fn fc) ∧ W.cell? ⟨w.heap.size, 2, none⟩ = some (.slice dA dn dc) ∧ W.cell? (ad.add (k * 5)) = some (.string y0) ∧ Below w.heap.size w W) (by kernel_rfl) (⟨c0, c1, c2, s0, HB1.out.drew⟩) (fun hHeld => ?_)
  refine wpAnyH_take (i := 0) rfl (by kernel_rfl) (by kernel_rfl) (by kernel_rfl) (fun _ _ _ h => h) (Or.inl ⟨by rfl, by intro W hSW; (try dsimp only at hSW); go_simp; try (with_reducible rfl)⟩) hHeld ?_
  try simp only [Act.put, List.getElem_toArray, List.getElem_cons_zero, List.getElem_cons_succ, List.setIfInBounds_toArray, List.set_cons_zero, List.set_cons_succ]
  refine wpAnyH_take (i := 1) rfl (by kernel_rfl) (by kernel_rfl) (by kernel_rfl) (fun _ _ _ h => h) (Or.inl ⟨by rfl, by intro W hSW; (try dsimp only at hSW); go_simp; try (with_reducible rfl)⟩) hHeld ?_
  try simp only [Act.put, List.getElem_toArray, List.getElem_cons_zero, List.getElem_cons_succ, List.setIfInBounds_toArray, List.set_cons_zero, List.set_cons_succ]
  refine wpAnyH_take (i := 2) rfl (by kernel_rfl) (by kernel_rfl) (by kernel_rfl) (fun _ _ _ h => h) (Or.inl ⟨by rfl, by intro W hSW; (try dsimp only at hSW); go_simp; try (with_reducible rfl)⟩) hHeld ?_
  try simp only [Act.put, List.getElem_toArray, List.getElem_cons_zero, List.getElem_cons_succ, List.setIfInBounds_toArray, List.set_cons_zero, List.set_cons_succ]
  refine wpAnyH_take (i := 3) rfl (by kernel_rfl) (by kernel_rfl) (by kernel_rfl) (fun _ _ _ h => h) (Or.inl ⟨by rfl, by intro W hSW; (try dsimp only at hSW); go_simp; try (with_reducible rfl)⟩) hHeld ?_
  try simp only [Act.put, List.getElem_toArray, List.getElem_cons_zero, List.getElem_cons_succ, List.setIfInBounds_toArray, List.set_cons_zero, List.set_cons_succ]
  refine wpAnyH_ready (rs := [4]) (by kernel_rfl) (by simp) ?_
  refine AllReadyH.cons rfl (fun K hK => ?_) AllReadyH.nil
  go_simp
  refine (HD.out _ hHeld.2.2.2.2).mono ?_
  rintro e w3 ⟨rfl, b3⟩
  try go_wp2_with fail
  refine hK.out _ _ (⟨cell_on hHeld.1 b3, cell_on hHeld.2.1 b3, cell_on hHeld.2.2.1 b3, cell_on hHeld.2.2.2.1 b3, to_ hHeld.2.2.2.2 b3⟩) ?_
  clear hK K hHeld
  intro hHeld
  try simp only [Act.put, List.getElem_toArray, List.getElem_cons_zero, List.getElem_cons_succ, List.setIfInBounds_toArray, List.set_cons_zero, List.set_cons_succ]
  refine wpAnyH_take (i := 5) rfl (by kernel_rfl) (by kernel_rfl) (by kernel_rfl) (fun _ _ _ h => h) (Or.inl ⟨by rfl, by intro W hSW; (try dsimp only at hSW); go_simp; try (with_reducible rfl)⟩) hHeld ?_
  try simp only [Act.put, List.getElem_toArray, List.getElem_cons_zero, List.getElem_cons_succ, List.setIfInBounds_toArray, List.set_cons_zero, List.set_cons_succ]
  refine wpAnyH_take (i := 6) rfl (by kernel_rfl) (by kernel_rfl) (by kernel_rfl) (fun _ _ _ h => h) (Or.inl ⟨by rfl, by intro W hSW; (try dsimp only at hSW); go_simp; try (with_reducible rfl)⟩) hHeld ?_
  try simp only [Act.put, List.getElem_toArray, List.getElem_cons_zero, List.getElem_cons_succ, List.setIfInBounds_toArray, List.set_cons_zero, List.set_cons_succ]
  refine wpAnyH_take (i := 7) rfl (by kernel_rfl) (by kernel_rfl) (by kernel_rfl) (fun _ _ _ h => h) (Or.inl ⟨by rfl, by intro W hSW; (try dsimp only at hSW); go_simp; try (with_reducible rfl)⟩) hHeld ?_
  try simp only [Act.put, List.getElem_toArray, List.getElem_cons_zero, List.getElem_cons_succ, List.setIfInBounds_toArray, List.set_cons_zero, List.set_cons_succ]
  refine wpAnyH_take (i := 8) rfl (by kernel_rfl) (by kernel_rfl) (by kernel_rfl) (fun _ _ _ h => h) (Or.inl ⟨by rfl, by intro W hSW; (try dsimp only at hSW); go_simp; try (with_reducible rfl)⟩) hHeld ?_
  try simp only [Act.put, List.getElem_toArray, List.getElem_cons_zero, List.getElem_cons_succ, List.setIfInBounds_toArray, List.set_cons_zero, List.set_cons_succ]
  refine wpAnyH_done (by kernel_rfl) ?_ _
  refine NoPanic.normal ?_
  go_wp2_with fail
  go_ret
  exact ⟨rfl, hHeld.2.2.2.2⟩
end Go.Proofs.Ytbcabomblfehlab.Bo
