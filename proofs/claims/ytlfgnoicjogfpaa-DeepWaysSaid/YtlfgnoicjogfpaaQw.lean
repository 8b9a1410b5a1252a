/-
  WALKS of layer 6: the pile's calls: isAhead, Len, Less. WALK of layer 6: the pile's Swap.
-/
import Derived.Test.YtlfgnoicjogfpaaQm
import Derived.WalkKit
import Derived.ProofKit
import Derived.WalkSpells
import Derived.WalkLawsBesides
import Derived.Lib.Hide
import Derived.BigRegion
import Derived.BigQuiet
import Derived.Deep.QuietTactic
import Derived.Deep.RegionHeld3
import Derived.LoopTactic
import Derived.Below
import Derived.IntWalk
namespace Go.Proofs.Ytlfgnoicjogfpaa.Qu
open Go.RowKit Go.Maps
open Mem Hp

theorem ret_bool {a b : Bool} (h : a = b) : Ending.returned (.bool a) = .returned (.bool b) := by rw [h]

/-- A waiter, as a value. -/
def wv (x : It) : Value := .agg #[.int .i64 x.1, .int .i64 x.2]

theorem isAhead_any (x y : It) (w : World) :
    Calls Try.prog 194 #[.agg #[.int .i64 x.1, .int .i64 x.2], .agg #[.int .i64 y.1, .int .i64 y.2]] w fun e w' => e = .returned (.bool (fore x y)) ∧ Below w.heap.size w w' := by
  obtain ⟨a, b⟩ := x
  obtain ⟨c, d⟩ := y
  by_cases h : b = d
  · have HX := Lib.hid (show fore (a, b) (c, d) = decide (a < c) by unfold fore; rw [if_pos h])
    subst h
    go_enter Try.func194, Try.ntmps194
    go_wp2
    go_ret
    exact ⟨ret_bool HX.out.symm, ((Below.refl _ _).alloc (Nat.le_refl _) _).alloc (by simp) _⟩
  · have HX := Lib.hid (show fore (a, b) (c, d) = decide (b < d) by unfold fore; rw [if_neg h])
    have h1 : (b == d) = false := by simpa using h
    have h2 : (b != d) = true := by simpa using h
    clear h
    go_enter Try.func194, Try.ntmps194
    go_wp2
    go_ret
    exact ⟨ret_bool HX.out.symm, ((Below.refl _ _).alloc (Nat.le_refl _) _).alloc (by simp) _⟩

theorem len_any (w : World) (p : Nat) (U : Nat → Prop) (n nm : Nat) (f : Nat → It) (h : Pile w p U n nm f) :
    Calls Try.prog 136 #[.pointer (some ⟨p, 0, none⟩)] w fun e w' => e = .returned (.int .i64 n) ∧ w = w' := by
  obtain ⟨m, v, D, h⟩ := h
  obtain ⟨A, c, rfl⟩ := h.form
  have c0 : w.cell? ⟨p, 0, none⟩ = some (.slice A n c) := by rw [h.blk.cell]; rfl
  clear h
  go_enter Try.func136, Try.ntmps136
  go_wp2
  go_ret
  exact ⟨rfl, rfl⟩

set_option maxHeartbeats 1000000 in
theorem less_any (w : World) (p : Nat) (U : Nat → Prop) (n nm : Nat) (f : Nat → It) (h : Pile w p U n nm f) (i j : Nat) (hi : i < n) (hj : j < n) :
    Calls Try.prog 190 #[.pointer (some ⟨p, 0, none⟩), .int .i64 i, .int .i64 j] w fun e w' => e = .returned (.bool (fore (f i) (f j))) ∧ Below w.heap.size w w' := by
  obtain ⟨m, v, D, h⟩ := h
  obtain ⟨g, c, rfl⟩ := h.there (by omega)
  have c0 : w.cell? ⟨p, 0, none⟩ = some (.slice (some ⟨g, 0, none⟩) n c) := by rw [h.blk.cell]; rfl
  have r0 : w.cell? ⟨g, i * 2, none⟩ = some (.int .i64 (f i).1) := by rw [h.row.cellAt _ (by omega), flat_id n f i hi]
  have r1 : w.cell? ⟨g, i * 2 + 1, none⟩ = some (.int .i64 (f i).2) := by rw [h.row.cellAt _ (by omega), flat_key n f i hi]
  have s0 : w.cell? ⟨g, j * 2, none⟩ = some (.int .i64 (f j).1) := by rw [h.row.cellAt _ (by omega), flat_id n f j hj]
  have s1 : w.cell? ⟨g, j * 2 + 1, none⟩ = some (.int .i64 (f j).2) := by rw [h.row.cellAt _ (by omega), flat_key n f j hj]
  have HA := Lib.hid (fun W => isAhead_any (f i) (f j) W)
  generalize fore (f i) (f j) = q at HA
  generalize (f i).1 = a at *
  generalize (f i).2 = b at *
  generalize (f j).1 = a' at *
  generalize (f j).2 = b' at *
  have few := h.few
  have hle := h.le
  clear h
  have lp := World.block_lt_of_cell? w _ c0
  have lg := World.block_lt_of_cell? w _ r0
  have hi0 : (0 : Int) ≤ (i : Int) := by omega
  have hi1 : (i : Int) < (n : Int) := by omega
  have hj0 : (0 : Int) ≤ (j : Int) := by omega
  have hj1 : (j : Int) < (n : Int) := by omega
  go_enter Try.func190, Try.ntmps190
  go_wp2_with fail
  go_region_held3 (fun w' => w'.cell? ⟨p, 0, none⟩ = some (.slice (some ⟨g, 0, none⟩) n c) ∧ w'.cell? ⟨g, i * 2, none⟩ = some (.int .i64 a) ∧ w'.cell? ⟨g, i * 2 + 1, none⟩ = some (.int .i64 b) ∧ w'.cell? ⟨g, j * 2, none⟩ = some (.int .i64 a') ∧ w'.cell? ⟨g, j * 2 + 1, none⟩ = some (.int .i64 b'))
    (first | go_keep | exact ⟨d0, d1, d2, d3, d4⟩)
    (first | (go_at_call 194; refine (HA.out _).mono ?_; rintro e w1 ⟨rfl, hb⟩; have d0 := (hb.cell (p := ⟨p, 0, none⟩) lp).trans c0; have d1 := (hb.cell (p := ⟨g, i * 2, none⟩) lg).trans r0; have d2 := (hb.cell (p := ⟨g, i * 2 + 1, none⟩) lg).trans r1; have d3 := (hb.cell (p := ⟨g, j * 2, none⟩) lg).trans s0; have d4 := (hb.cell (p := ⟨g, j * 2 + 1, none⟩) lg).trans s1))
  go_wp2_with fail
  go_ret
  exact ⟨rfl, (Below.refl _ _).drew.trans hb⟩
end Go.Proofs.Ytlfgnoicjogfpaa.Qu

namespace Go.Proofs.Ytlfgnoicjogfpaa.Qu
open Go.RowKit Go.Maps
open Mem Hp

theorem law : Keyed Try.prog 3 := int_keyed Try.underlying3

theorem wf64 {a : Int} (h : In64 a) : (Lit.int .i64 a).wf = true := WalkArith.wf_i64 h
theorem wfn {k : Nat} (h : k ≤ 1000) : (Lit.int .i64 (k : Int)).wf = true := WalkArith.wf_i64 ⟨by omega, by omega⟩

/-- The bound on a map's entries is as small as can be. -/
theorem tight {w : World} {P : Program} {k : TypeId} {R : Value → Option (DataW Unit × List MemPlace)} {b n m : Nat} {D : DataW Unit} (h : w.ownsMap P k R b n D) (hs : Maps.size D = m) : w.ownsMap P k R b m D := by
  obtain ⟨es, clock, hb, F, _, rfl⟩ := h
  refine ⟨es, clock, hb, F, ?_, rfl⟩
  rw [← hs]
  simp [Maps.size, length_sorted]

/-- A store into the pile's map. -/
theorem stored (w : World) (m n : Nat) (D : DataW Unit) (h : w.ownsMap Try.prog 3 (plainElem Try.prog 3) m n D) (hn : n ≤ 1000) (a : Int) (ha : In64 a) (k : Nat) (hk : k ≤ 1000) :
    ∃ w', (Instr.mapUpdate 166 (.map (some m)) (.int .i64 a) (.int .i64 k)).run Try.prog w = .ok () w' ∧ w'.ownsMap Try.prog 3 (plainElem Try.prog 3) m (n + 1) (D.put (kid a) (kn k)) ∧ w.mapTurned w' m :=
  h.store law Try.underlying166 (by unfold maxLen; omega) (keyOf_int_mk Try.underlying3 (wf64 ha)) (plainElem_int Try.underlying3 (wfn hk))

theorem blk_turned {w w' : World} {p m : Nat} {t : TypeId} {cs : Array Value} (h : Blk w p t cs) (ht : w.mapTurned w' m) (hne : p ≠ m) : Blk w' p t cs := h.only ht.grown hne
theorem row_turned {w w' : World} {m : Nat} {base : Nat} {e : TypeId} {v : Value} {n : Nat} {xs : List Value} (h : w.ownsRow base e 2 v n xs) (ht : w.mapTurned w' m) (hne : ∀ g, v.ownBlock = some g → g ≠ m) : w'.ownsRow base e 2 v n xs :=
  h.kept ht.grown (by
    cases hv : v.ownBlock with
    | none => exact .inl rfl
    | some g => exact .inr (fun e => hne g hv (by injection e)))

/-- What four stores leave of a pile whose map is still as it was. -/
structure Half (w : World) (p m g c n : Nat) (D : DataW Unit) (f : Nat → It) : Prop where
  blk : Blk w p 168 #[.slice (some ⟨g, 0, none⟩) n c, .map (some m)]
  row : w.ownsRow 0 161 2 (.slice (some ⟨g, 0, none⟩) n c) n (flatF n f)
  map : w.ownsMap Try.prog 3 (plainElem Try.prog 3) m n D

theorem Half.turned {w w' : World} {p m g c n : Nat} {D D' : DataW Unit} {f : Nat → It} (h : Half w p m g c n D f) (ht : w.mapTurned w' m) (hm : w'.ownsMap Try.prog 3 (plainElem Try.prog 3) m (n + 1) D') (hs : Maps.size D' = n) (hp : p ≠ m) (hg : g ≠ m) : Half w' p m g c n D' f :=
  ⟨blk_turned h.blk ht hp, row_turned h.row ht (fun g' e => by obtain rfl := Option.some.inj e; exact hg), tight hm hs⟩

theorem Half.drew {w : World} {p m g c n : Nat} {D : DataW Unit} {f : Nat → It} (h : Half w p m g c n D f) : Half w.drew p m g c n D f := ⟨h.blk, h.row, h.map⟩

theorem four_stores (w : World) (p m g c n : Nat) (D : DataW Unit) (U : Nat → Prop) (f : Nat → It) (h : PileAt w p m (.slice (some ⟨g, 0, none⟩) n c) D U n n f) (i j : Nat) (hi : i < n) (hj : j < n) :
    Half ((((w.setCell ⟨g, i * 2, none⟩ (.int .i64 (f j).1)).setCell ⟨g, i * 2 + 1, none⟩ (.int .i64 (f j).2)).setCell ⟨g, j * 2, none⟩ (.int .i64 (f i).1)).setCell ⟨g, j * 2 + 1, none⟩ (.int .i64 (f i).2)) p m g c n D (swp f i j) ∧
    Tn U w ((((w.setCell ⟨g, i * 2, none⟩ (.int .i64 (f j).1)).setCell ⟨g, i * 2 + 1, none⟩ (.int .i64 (f j).2)).setCell ⟨g, j * 2, none⟩ (.int .i64 (f i).1)).setCell ⟨g, j * 2 + 1, none⟩ (.int .i64 (f i).2)) := by
  obtain ⟨hgp, hgm, hgu⟩ := h.gp g rfl
  refine ⟨⟨?_, ?_, ?_⟩, ((((Tn.refl U w).setCell (.inl hgu) _).setCell (.inl hgu) _).setCell (.inl hgu) _).setCell (.inl hgu) _⟩
  · exact (((h.blk.only (only_set (only_refl _ _) _ _) (Ne.symm hgp)).only (only_set (only_refl _ _) _ _) (Ne.symm hgp)).only (only_set (only_refl _ _) _ _) (Ne.symm hgp)).only (only_set (only_refl _ _) _ _) (Ne.symm hgp)
  · have := ((((h.row.stored (i * 2) (.int .i64 (f j).1)).1.stored (i * 2 + 1) (.int .i64 (f j).2)).1.stored (j * 2) (.int .i64 (f i).1)).1.stored (j * 2 + 1) (.int .i64 (f i).2)).1
    rwa [flat_swp n f i j hi hj] at this
  · exact (((h.map.setCell (a := ⟨g, i * 2, none⟩) (Ne.symm hgm) _).setCell (a := ⟨g, i * 2 + 1, none⟩) (Ne.symm hgm) _).setCell (a := ⟨g, j * 2, none⟩) (Ne.symm hgm) _).setCell (a := ⟨g, j * 2 + 1, none⟩) (Ne.symm hgm) _

set_option maxHeartbeats 4000000 in
set_option maxRecDepth 100000 in
theorem swap_apart (w : World) (p m : Nat) (v : Value) (D : DataW Unit) (U : Nat → Prop) (n : Nat) (f : Nat → It) (h : PileAt w p m v D U n n f) (i j : Nat) (hi : i < n) (hj : j < n) (hij : i ≠ j) :
    Calls Try.prog 193 #[.pointer (some ⟨p, 0, none⟩), .int .i64 i, .int .i64 j] w fun e w' => e = .returned (.tuple #[]) ∧ Pile w' p U n n (swp f i j) ∧ Tn U w w' := by
  have HH := Lib.hid h
  obtain ⟨g, c, rfl⟩ := h.there (by omega)
  have c0 : w.cell? ⟨p, 0, none⟩ = some (.slice (some ⟨g, 0, none⟩) n c) := by rw [h.blk.cell]; rfl
  have r0 : w.cell? ⟨g, i * 2, none⟩ = some (.int .i64 (f i).1) := by rw [h.row.cellAt _ (by omega), flat_id n f i hi]
  have r1 : w.cell? ⟨g, i * 2 + 1, none⟩ = some (.int .i64 (f i).2) := by rw [h.row.cellAt _ (by omega), flat_key n f i hi]
  have s0 : w.cell? ⟨g, j * 2, none⟩ = some (.int .i64 (f j).1) := by rw [h.row.cellAt _ (by omega), flat_id n f j hj]
  have s1 : w.cell? ⟨g, j * 2 + 1, none⟩ = some (.int .i64 (f j).2) := by rw [h.row.cellAt _ (by omega), flat_key n f j hj]
  have z0 := h.row.frozenAt (i * 2)
  have z1 := h.row.frozenAt (i * 2 + 1)
  have z2 := h.row.frozenAt (j * 2)
  have z3 := h.row.frozenAt (j * 2 + 1)
  have hgp := (h.gp g rfl).1
  have hgm := (h.gp g rfl).2.1
  have hgp' : p ≠ g := fun e => hgp e.symm
  have few := h.few
  have lp := World.block_lt_of_cell? w _ c0
  have lg := World.block_lt_of_cell? w _ r0
  have HS : Hid (∃ W1 : World, _ = W1 ∧ Half W1 p m g c n D (swp f i j) ∧ Tn U w W1) := Lib.hid ⟨_, rfl, (four_stores w p m g c n D U f h i j hi hj).1.drew, (four_stores w p m g c n D U f h i j hi hj).2.drewN 1⟩
  have HI := Lib.hid (And.intro (h.inn i hi) (h.inn j hj))
  have HM := Lib.hid (h.is.swp (h.map.tidy law) hi hj)
  have HM1 : Hid (Maps.size (D.put (kid (f j).1) (kn i)) = n) := Lib.hid (by
    rw [size_put (h.map.tidy law), (h.is.has _).2 ⟨j, hj, rfl⟩, if_pos rfl, h.is.size])
  have HF : Hid (swp f i j i = f j ∧ swp f i j j = f i) := Lib.hid ⟨swp_l f i j, swp_r f i j⟩
  have HB : Hid (∀ k, k < n → In64 (swp f i j k).1 ∧ In64 (swp f i j k).2) := Lib.hid (fun k hk => by
    obtain ⟨k', hk', e⟩ := ((same_swp f hi hj).1 (swp f i j k)).2 ⟨k, hk, rfl⟩
    rw [← e]; exact h.inn k' hk')
  have hpm := h.pm
  clear h
  generalize swp f i j = fs at HS HM HF HB ⊢
  generalize f i = x at *
  generalize f j = y at *
  obtain ⟨a, b⟩ := x
  obtain ⟨a', b'⟩ := y
  have hi0 : (0 : Int) ≤ (i : Int) := by omega
  have hi1 : (i : Int) < (n : Int) := by omega
  have hj0 : (0 : Int) ≤ (j : Int) := by omega
  have hj1 : (j : Int) < (n : Int) := by omega
  go_enter Try.func193, Try.ntmps193
  go_wp2_with fail
  go_region
  obtain ⟨W1, hW1, hH1, hT1⟩ := HS.out
  rw [hW1]
  clear hW1 HS c0 r0 r1 s0 s1 z0 z1 z2 z3 lp lg
  have HH1 := Lib.hid hH1
  have HT1 := Lib.hid hT1
  have c0 : W1.cell? ⟨p, 0, none⟩ = some (.slice (some ⟨g, 0, none⟩) n c) := by rw [hH1.blk.cell]; rfl
  have c1 : W1.cell? ⟨p, 1, none⟩ = some (.map (some m)) := by rw [hH1.blk.cell]; rfl
  have r0 : W1.cell? ⟨g, i * 2, none⟩ = some (.int .i64 a') := by rw [hH1.row.cellAt _ (by omega), flat_id n fs i hi, HF.out.1]
  obtain ⟨W2, hrun, hmap2, hturn⟩ := stored W1.drew m n D hH1.map few a' HI.out.2.1 i (by omega)
  have HH2 := Lib.hid (hH1.drew.turned hturn hmap2 HM1.out hpm hgm)
  have HT2 := Lib.hid ((HT1.out.drewN 1).by_only hturn.grown (.inl (HH.out.um)))
  clear hH1 hT1 hmap2 hturn
  have d0 : W2.cell? ⟨p, 0, none⟩ = some (.slice (some ⟨g, 0, none⟩) n c) := by rw [HH2.out.blk.cell]; rfl
  have d1 : W2.cell? ⟨p, 1, none⟩ = some (.map (some m)) := by rw [HH2.out.blk.cell]; rfl
  have d2 : W2.cell? ⟨g, i * 2, none⟩ = some (.int .i64 a') := by rw [HH2.out.row.cellAt _ (by omega), flat_id n fs i hi, HF.out.1]
  have d3 : W2.cell? ⟨g, j * 2, none⟩ = some (.int .i64 a) := by rw [HH2.out.row.cellAt _ (by omega), flat_id n fs j hj, HF.out.2]
  go_wp2_with fail
  go_region_held3 (fun w' => w'.cell? ⟨p, 0, none⟩ = some (.slice (some ⟨g, 0, none⟩) n c) ∧ w'.cell? ⟨p, 1, none⟩ = some (.map (some m)) ∧ w'.cell? ⟨g, i * 2, none⟩ = some (.int .i64 a')) (first | go_keep | exact ⟨d0, d1, d2⟩) (fail)
  clear hrun c0 c1 r0 d2
  obtain ⟨W3, hrun, hmap3, hturn⟩ := stored W2.drew m n _ HH2.out.map few a HI.out.1.1 j (by omega)
  have HH3 := Lib.hid (HH2.out.drew.turned hturn hmap3 HM.out.size hpm hgm)
  have HT3 := Lib.hid ((HT2.out.drewN 1).by_only hturn.grown (.inl (HH.out.um)))
  have e0 : W3.cell? ⟨p, 0, none⟩ = some (.slice (some ⟨g, 0, none⟩) n c) := by rw [HH3.out.blk.cell]; rfl
  have e1 : W3.cell? ⟨p, 1, none⟩ = some (.map (some m)) := by rw [HH3.out.blk.cell]; rfl
  have e2 : W3.cell? ⟨g, j * 2, none⟩ = some (.int .i64 a) := by rw [HH3.out.row.cellAt _ (by omega), flat_id n fs j hj, HF.out.2]
  clear hmap3 hturn
  go_wp2_with fail
  go_region_held3 (fun w' => w'.cell? ⟨p, 0, none⟩ = some (.slice (some ⟨g, 0, none⟩) n c) ∧ w'.cell? ⟨p, 1, none⟩ = some (.map (some m)) ∧ w'.cell? ⟨g, j * 2, none⟩ = some (.int .i64 a)) (first | go_keep | exact ⟨e0, e1, e2⟩) (fail)
  clear hrun d0 d1 d3 e0 e1 e2
  go_wp2_with fail
  go_end0
  refine ⟨rfl, ⟨m, _, _, HH3.out.blk, HH3.out.row, HH3.out.map, HM.out, hpm, HH.out.gp, HH.out.up, HH.out.um, fun b hb => Nat.lt_of_lt_of_le (HH.out.lt b hb) HT3.out.size, ?_, Nat.le_refl _, few⟩, HT3.out⟩
  exact HB.out
set_option maxHeartbeats 4000000 in
set_option maxRecDepth 100000 in
theorem swap_same (w : World) (p m : Nat) (v : Value) (D : DataW Unit) (U : Nat → Prop) (n : Nat) (f : Nat → It) (h : PileAt w p m v D U n n f) (i : Nat) (hi : i < n) :
    Calls Try.prog 193 #[.pointer (some ⟨p, 0, none⟩), .int .i64 i, .int .i64 i] w fun e w' => e = .returned (.tuple #[]) ∧ Pile w' p U n n (swp f i i) ∧ Tn U w w' := by
  have HH := Lib.hid h
  obtain ⟨g, c, rfl⟩ := h.there (by omega)
  have c0 : w.cell? ⟨p, 0, none⟩ = some (.slice (some ⟨g, 0, none⟩) n c) := by rw [h.blk.cell]; rfl
  have r0 : w.cell? ⟨g, i * 2, none⟩ = some (.int .i64 (f i).1) := by rw [h.row.cellAt _ (by omega), flat_id n f i hi]
  have r1 : w.cell? ⟨g, i * 2 + 1, none⟩ = some (.int .i64 (f i).2) := by rw [h.row.cellAt _ (by omega), flat_key n f i hi]
  have z0 := h.row.frozenAt (i * 2)
  have z1 := h.row.frozenAt (i * 2 + 1)
  have hgp := (h.gp g rfl).1
  have hgm := (h.gp g rfl).2.1
  have hgp' : p ≠ g := fun e => hgp e.symm
  have few := h.few
  have lp := World.block_lt_of_cell? w _ c0
  have lg := World.block_lt_of_cell? w _ r0
  have HS : Hid (∃ W1 : World, _ = W1 ∧ Half W1 p m g c n D (swp f i i) ∧ Tn U w W1) := Lib.hid ⟨_, rfl, (four_stores w p m g c n D U f h i i hi hi).1.drew, (four_stores w p m g c n D U f h i i hi hi).2.drewN 1⟩
  have HI := Lib.hid (And.intro (h.inn i hi) (h.inn i hi))
  have HM := Lib.hid (h.is.swp (h.map.tidy law) hi hi)
  have HM1 : Hid (Maps.size (D.put (kid (f i).1) (kn i)) = n) := Lib.hid (by
    rw [size_put (h.map.tidy law), (h.is.has _).2 ⟨i, hi, rfl⟩, if_pos rfl, h.is.size])
  have HF : Hid (swp f i i i = f i ∧ swp f i i i = f i) := Lib.hid ⟨swp_l f i i, swp_r f i i⟩
  have HB : Hid (∀ k, k < n → In64 (swp f i i k).1 ∧ In64 (swp f i i k).2) := Lib.hid (fun k hk => by
    obtain ⟨k', hk', e⟩ := ((same_swp f hi hi).1 (swp f i i k)).2 ⟨k, hk, rfl⟩
    rw [← e]; exact h.inn k' hk')
  have hpm := h.pm
  clear h
  generalize swp f i i = fs at HS HM HF HB ⊢
  generalize f i = x at *
  obtain ⟨a, b⟩ := x
  have hi0 : (0 : Int) ≤ (i : Int) := by omega
  have hi1 : (i : Int) < (n : Int) := by omega
  go_enter Try.func193, Try.ntmps193
  go_wp2_with fail
  go_region
  obtain ⟨W1, hW1, hH1, hT1⟩ := HS.out
  rw [hW1]
  clear hW1 HS c0 r0 r1 z0 z1 lp lg
  have HH1 := Lib.hid hH1
  have HT1 := Lib.hid hT1
  have c0 : W1.cell? ⟨p, 0, none⟩ = some (.slice (some ⟨g, 0, none⟩) n c) := by rw [hH1.blk.cell]; rfl
  have c1 : W1.cell? ⟨p, 1, none⟩ = some (.map (some m)) := by rw [hH1.blk.cell]; rfl
  have r0 : W1.cell? ⟨g, i * 2, none⟩ = some (.int .i64 a) := by rw [hH1.row.cellAt _ (by omega), flat_id n fs i hi, HF.out.1]
  obtain ⟨W2, hrun, hmap2, hturn⟩ := stored W1.drew m n D hH1.map few a HI.out.2.1 i (by omega)
  have HH2 := Lib.hid (hH1.drew.turned hturn hmap2 HM1.out hpm hgm)
  have HT2 := Lib.hid ((HT1.out.drewN 1).by_only hturn.grown (.inl (HH.out.um)))
  clear hH1 hT1 hmap2 hturn
  have d0 : W2.cell? ⟨p, 0, none⟩ = some (.slice (some ⟨g, 0, none⟩) n c) := by rw [HH2.out.blk.cell]; rfl
  have d1 : W2.cell? ⟨p, 1, none⟩ = some (.map (some m)) := by rw [HH2.out.blk.cell]; rfl
  have d2 : W2.cell? ⟨g, i * 2, none⟩ = some (.int .i64 a) := by rw [HH2.out.row.cellAt _ (by omega), flat_id n fs i hi, HF.out.1]
  have d3 : W2.cell? ⟨g, i * 2, none⟩ = some (.int .i64 a) := by rw [HH2.out.row.cellAt _ (by omega), flat_id n fs i hi, HF.out.2]
  go_wp2_with fail
  go_region_held3 (fun w' => w'.cell? ⟨p, 0, none⟩ = some (.slice (some ⟨g, 0, none⟩) n c) ∧ w'.cell? ⟨p, 1, none⟩ = some (.map (some m)) ∧ w'.cell? ⟨g, i * 2, none⟩ = some (.int .i64 a)) (first | go_keep | exact ⟨d0, d1, d2⟩) (fail)
  clear hrun c0 c1 r0 d2
  obtain ⟨W3, hrun, hmap3, hturn⟩ := stored W2.drew m n _ HH2.out.map few a HI.out.1.1 i (by omega)
  have HH3 := Lib.hid (HH2.out.drew.turned hturn hmap3 HM.out.size hpm hgm)
  have HT3 := Lib.hid ((HT2.out.drewN 1).by_only hturn.grown (.inl (HH.out.um)))
  have e0 : W3.cell? ⟨p, 0, none⟩ = some (.slice (some ⟨g, 0, none⟩) n c) := by rw [HH3.out.blk.cell]; rfl
  have e1 : W3.cell? ⟨p, 1, none⟩ = some (.map (some m)) := by rw [HH3.out.blk.cell]; rfl
  have e2 : W3.cell? ⟨g, i * 2, none⟩ = some (.int .i64 a) := by rw [HH3.out.row.cellAt _ (by omega), flat_id n fs i hi, HF.out.2]
  clear hmap3 hturn
  go_wp2_with fail
  go_region_held3 (fun w' => w'.cell? ⟨p, 0, none⟩ = some (.slice (some ⟨g, 0, none⟩) n c) ∧ w'.cell? ⟨p, 1, none⟩ = some (.map (some m)) ∧ w'.cell? ⟨g, i * 2, none⟩ = some (.int .i64 a)) (first | go_keep | exact ⟨e0, e1, e2⟩) (fail)
  clear hrun d0 d1 d3 e0 e1 e2
  go_wp2_with fail
  go_end0
  refine ⟨rfl, ⟨m, _, _, HH3.out.blk, HH3.out.row, HH3.out.map, HM.out, hpm, HH.out.gp, HH.out.up, HH.out.um, fun b hb => Nat.lt_of_lt_of_le (HH.out.lt b hb) HT3.out.size, ?_, Nat.le_refl _, few⟩, HT3.out⟩
  exact HB.out

theorem swap_any (w : World) (p : Nat) (U : Nat → Prop) (n : Nat) (f : Nat → It) (h : Pile w p U n n f) (i j : Nat) (hi : i < n) (hj : j < n) :
    Calls Try.prog 193 #[.pointer (some ⟨p, 0, none⟩), .int .i64 i, .int .i64 j] w fun e w' => e = .returned (.tuple #[]) ∧ Pile w' p U n n (swp f i j) ∧ Tn U w w' := by
  obtain ⟨m, v, D, h⟩ := h
  by_cases hij : i = j
  · subst hij
    exact swap_same w p m v D U n f h i hi
  · exact swap_apart w p m v D U n f h i j hi hj hij
end Go.Proofs.Ytlfgnoicjogfpaa.Qu
