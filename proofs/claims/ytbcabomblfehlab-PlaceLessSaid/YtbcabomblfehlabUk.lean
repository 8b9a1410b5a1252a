/-
  WALK of layer 29's law: few.
-/
import Derived.Test.YtbcabomblfehlabUj
import Derived.Test.YtbcabomblfehlabTc
namespace Go.Proofs.Ytbcabomblfehlab.Bo
open Go.RowKit Go.Maps
open Mem Rf
set_option linter.unusedSimpArgs false
set_option linter.unusedVariables false

theorem FnI.on {w w' : World} {F : Fc} {x : By.Fn} (h : FnI w F x) (hb : Below w.heap.size w w') : FnI w' F x := ⟨h.fw.on hb, h.hk, h.hpd, h.hns, h.hf, h.ht, h.bd, h.wf⟩
theorem DtI.on {w w' : World} {D : Dc} {ws : List Int} {rs : List By.Rl} (h : DtI w D ws rs) (hb : Below w.heap.size w w') : DtI w' D ws rs := ⟨h.hw.on hb, h.hl, h.hr.on hb, h.bd⟩
theorem ObI.on {w w' : World} {o : Oj} {xs : Nat → By.Fn} {ws : Nat → List Int} {rs : Nat → List By.Rl} (h : ObI w o xs ws rs) (hb : Below w.heap.size w w') : ObI w' o xs ws rs := ⟨h.mem.on hb, h.kinds, fun k hk => (h.fns k hk).on hb, fun k hk => (h.dats k hk).on hb⟩
theorem OjsI.on {w w' : World} {A : Option Addr} {n c : Nat} {os : List Oj} {xs : Nat → Nat → By.Fn} {ws : Nat → Nat → List Int} {rs : Nat → Nat → List By.Rl} (h : OjsI w A n c os xs ws rs) (hb : Below w.heap.size w w') : OjsI w' A n c os xs ws rs := ⟨h.mem.on hb, fun i hi => (h.each i hi).on hb⟩

theorem own_wd {α : Type} {k : Nat} {enc : α → List Value} {w : World} {B n c m : Nat} {e : TypeId} {A : Option Addr} {l : List α} (hk : ∀ x, (enc x).length = k) (hl : l.length = m) (h : w.ownsRow B e k (.slice A n c) m (l.flatMap enc)) : Wd k enc w w.heap.size A n c l := by
  obtain ⟨A', c', e', h'⟩ := wd_own hk hl h
  injection e' with e1 e2 e3
  subst e1 e2 e3
  exact h'

/-- A program that is to be worked on, as far as places ask. -/
structure PgP (w : World) (P : Pgm) : Prop where
  fr : Wd 13 encGf w w.heap.size P.fA P.fn P.fc P.fs
  dr : Wd 7 encGd w w.heap.size P.dA P.dn P.dc P.ds
  fs : ∀ i, i < P.fn → fewG (gfAt P.fs i)
  ds : ∀ i, i < P.dn → fewD (gdAt P.ds i)
  few : P.fn ≤ 24 ∧ P.dn ≤ 24
theorem PgP.on {w w' : World} {P : Pgm} (h : PgP w P) (hb : Below w.heap.size w w') : PgP w' P := ⟨(h.fr.below hb).more hb.size, (h.dr.below hb).more hb.size, h.fs, h.ds, h.few⟩
theorem PgP.rdF {w : World} {P : Pgm} {p : Pn} (h : PgP w P) (hp : PnR w p) : RdF w w.heap.size P p := ⟨h.fr, hp.k, hp.c, by have := h.few; omega, fun a ha => by have := h.fs a ha; unfold fewG at this; omega⟩
theorem PgP.rdD {w : World} {P : Pgm} (h : PgP w P) : RdD w w.heap.size P := ⟨h.dr, by have := h.few; omega, fun a ha => by have := h.ds a ha; unfold fewD at this; omega⟩
theorem PgP.kk {w : World} {P : Pgm} (h : PgP w P) : ∀ a, a < P.fn → (gfAt P.fs a).F.kinds.2.1 ≤ 1000 := fun a ha => by have := h.fs a ha; unfold fewG at this; omega
theorem PgO.three {B : Nat} {w : World} {fs : List Gf} {ds : List Gd} {v1 v2 : Value} (h : PgO B w fs ds v1 v2) (b : Nat) (hb : b < B) (x y z : Value) : PgO B (((w.setCell ⟨b, 0, none⟩ x).setCell ⟨b, 1, none⟩ y).setCell ⟨b, 2, none⟩ z) fs ds v1 v2 := ((h.cell ⟨b, 0, none⟩ x hb).cell ⟨b, 1, none⟩ y hb).cell ⟨b, 2, none⟩ z hb
theorem three_below {B : Nat} {w W : World} (h : Below B w W) (b : Nat) (hb : B ≤ b) (x y z : Value) : Below B w (((W.setCell ⟨b, 0, none⟩ x).setCell ⟨b, 1, none⟩ y).setCell ⟨b, 2, none⟩ z) := ((h.setCell (p := ⟨b, 0, none⟩) hb x).setCell (p := ⟨b, 1, none⟩) hb y).setCell (p := ⟨b, 2, none⟩) hb z
theorem three_at {w : World} {b : Nat} {t : TypeId} {a c d : Value} (h : Blk w b t #[a, c, d]) (x y z : Value) : Blk (((w.setCell ⟨b, 0, none⟩ x).setCell ⟨b, 1, none⟩ y).setCell ⟨b, 2, none⟩ z) b t #[x, y, z] := ((h.stored 0 x).stored 1 y).stored 2 z
theorem three_far {w : World} {b b' j : Nat} {v : Value} (h : w.cell? ⟨b', j, none⟩ = some v) (hb : b' ≠ b) (x y z : Value) : (((w.setCell ⟨b, 0, none⟩ x).setCell ⟨b, 1, none⟩ y).setCell ⟨b, 2, none⟩ z).cell? ⟨b', j, none⟩ = some v := cell_far (cell_far (cell_far h hb) hb) hb

set_option maxRecDepth 100000 in
set_option maxHeartbeats 8000000 in
theorem few29_any (w : World) (A : Option Addr) (n c : Nat) (os : List Oj) (xs : Nat → Nat → By.Fn) (ws : Nat → Nat → List Int) (rs : Nat → Nat → List By.Rl) (h : OjsI w A n c os xs ws rs) (p : Pn) (hp : PnR w p) :
    Calls Try.prog 6 #[.slice A n c, pnV p] w fun e w' => ∃ P b, e = .returned (.tuple #[pgV P, .bool b]) ∧ (b = true → PgP w' P ∧ p.kn ≤ 60 ∧ p.cn ≤ 60) ∧ Below w.heap.size w w' := by
  have HFEW := Lib.hid (fun W (hb : Below w.heap.size w W) => few_in (h.on hb))
  have hkn := hp.k.few
  have hcn := hp.c.few
  clear h hp
  obtain ⟨kA, kn, kc, ks, cA, cn, cc, cl⟩ := p
  unfold pnV
  dsimp only at hkn hcn ⊢
  obtain ⟨W0, hW0⟩ : ∃ W0, (w.alloc (.cells #[.slice kA kn kc, .slice cA cn cc] 26)).alloc (.cells #[.slice none 0 0, .slice none 0 0, .int .i64 0] 30) = W0 := ⟨_, rfl⟩
  have HB0 := Lib.hid (show Below w.heap.size w W0 from by rw [← hW0]; exact to_ (alloc_ _ _) (alloc_ _ _))
  have HPB := Lib.hid (show Blk W0 w.heap.size 26 #[.slice kA kn kc, .slice cA cn cc] from by rw [← hW0]; exact (Blk.new _ _ _).alloc _)
  have HS0 := Lib.hid (show W0.heap.size = w.heap.size + 2 from by rw [← hW0]; simp)
  have HRB : Hid (Blk W0 (w.heap.size + 1) 30 #[.slice none 0 0, .slice none 0 0, .int .i64 0]) := Lib.hid (by
    rw [← hW0]
    have := Blk.new (w.alloc (.cells #[.slice kA kn kc, .slice cA cn cc] 26)) 30 #[.slice none 0 0, .slice none 0 0, .int .i64 0]
    rwa [World.size_alloc] at this)
  by_cases g1 : 60 < kn ∨ 60 < cn
  · have d1 : ∃ b1 b2 : Bool, decide ((60 : Int) < (kn : Int)) = b1 ∧ decide ((60 : Int) < (cn : Int)) = b2 ∧ (b1 || b2) = true := by
      refine ⟨_, _, rfl, rfl, ?_⟩
      simp
      omega
    clear g1
    obtain ⟨b1, b2, e1, e2, e5⟩ := d1
    cases b1 <;> cases b2 <;> first
      | (exfalso; revert e5; decide)
      | (clear e5
         go_enter Try.func6, Try.ntmps6
         go_wp2_with (go_at_call 20; refine (HFEW.out W0 HB0.out).mono ?_; rintro e w2 ⟨⟨b, rfl, -⟩, hb2⟩; have HB2 := Lib.hid hb2; clear hb2; have HRB2 := Lib.hid (HRB.out.below HB2.out HRB.out.lt); have r0 : w2.cell? ⟨w.heap.size + 1, 0, none⟩ = some (.slice none 0 0) := HRB2.out.cell 0; have r1 : w2.cell? ⟨w.heap.size + 1, 1, none⟩ = some (.slice none 0 0) := HRB2.out.cell 1; have r2 : w2.cell? ⟨w.heap.size + 1, 2, none⟩ = some (.int .i64 0) := HRB2.out.cell 2; have f0 := HRB2.out.frozen 0; have f1 := HRB2.out.frozen 1; have f2 := HRB2.out.frozen 2; have q9 := HPB.out.below HB2.out HPB.out.lt; have p0 : w2.cell? ⟨w.heap.size, 0, none⟩ = some (.slice kA kn kc) := q9.cell 0; have p1 : w2.cell? ⟨w.heap.size, 1, none⟩ = some (.slice cA cn cc) := q9.cell 1; clear q9; cases b)
         · have hb9 := to_ HB0.out HB2.out
           have hz := three_at HRB2.out (.slice none 0 0) (.slice none 0 0) (.int .i64 0)
           have q0 := hz.cell 0
           have q1 := hz.cell 1
           have q2 := hz.cell 2
           have hfin := three_below hb9 (w.heap.size + 1) (by omega) (.slice none 0 0) (.slice none 0 0) (.int .i64 0)
           refine bodyPost_ret (v := .tuple #[pgV noP, .bool false]) (by simp [results, Try.results6, go_sem, pgV, noP, q0, q1, q2]) rfl ⟨noP, false, rfl, (fun h => by cases h), hfin⟩
         · have hb9 := to_ HB0.out HB2.out
           have hz := three_at HRB2.out (.slice none 0 0) (.slice none 0 0) (.int .i64 0)
           have q0 := hz.cell 0
           have q1 := hz.cell 1
           have q2 := hz.cell 2
           have hfin := three_below hb9 (w.heap.size + 1) (by omega) (.slice none 0 0) (.slice none 0 0) (.int .i64 0)
           refine bodyPost_ret (v := .tuple #[pgV noP, .bool false]) (by simp [results, Try.results6, go_sem, pgV, noP, q0, q1, q2]) rfl ⟨noP, false, rfl, (fun h => by cases h), hfin⟩
        )
  · have e1 : ¬ (60 : Int) < (kn : Int) := by omega
    have e2 : ¬ (60 : Int) < (cn : Int) := by omega
    have HN6 := Lib.hid (show kn ≤ 60 ∧ cn ≤ 60 by omega)
    clear g1
    go_enter Try.func6, Try.ntmps6
    go_wp2_with (go_at_call 20; refine (HFEW.out W0 HB0.out).mono ?_; rintro e w2 ⟨⟨b, rfl, hj⟩, hb2⟩; have HJ := Lib.hid hj; have HB2 := Lib.hid hb2; clear hb2 hj hW0; have HRB2 := Lib.hid (HRB.out.below HB2.out HRB.out.lt); have r0 : w2.cell? ⟨w.heap.size + 1, 0, none⟩ = some (.slice none 0 0) := HRB2.out.cell 0; have r1 : w2.cell? ⟨w.heap.size + 1, 1, none⟩ = some (.slice none 0 0) := HRB2.out.cell 1; have r2 : w2.cell? ⟨w.heap.size + 1, 2, none⟩ = some (.int .i64 0) := HRB2.out.cell 2; have f0 := HRB2.out.frozen 0; have f1 := HRB2.out.frozen 1; have f2 := HRB2.out.frozen 2; have q9 := HPB.out.below HB2.out HPB.out.lt; have p0 : w2.cell? ⟨w.heap.size, 0, none⟩ = some (.slice kA kn kc) := q9.cell 0; have p1 : w2.cell? ⟨w.heap.size, 1, none⟩ = some (.slice cA cn cc) := q9.cell 1; clear q9; cases b)
    · have hb9 := to_ HB0.out HB2.out
      have hz := three_at HRB2.out (.slice none 0 0) (.slice none 0 0) (.int .i64 0)
      have q0 := hz.cell 0
      have q1 := hz.cell 1
      have q2 := hz.cell 2
      have hfin := three_below hb9 (w.heap.size + 1) (by omega) (.slice none 0 0) (.slice none 0 0) (.int .i64 0)
      refine bodyPost_ret (v := .tuple #[pgV noP, .bool false]) (by simp [results, Try.results6, go_sem, pgV, noP, q0, q1, q2]) rfl ⟨noP, false, rfl, (fun h => by cases h), hfin⟩
    · have HJ2 := Lib.hid (HJ.out (by trivial))
      clear HJ r0 r1 r2 f0 f1 f2 p0 p1
      go_wp2_with (go_at_call 21; refine (bind_in (HJ2.out.on HB2.out) _).mono ?_; rintro e w3 ⟨P, r1, r2, r3, rfl, hpl, hb3, -⟩; have HPL := Lib.hid hpl; have HB3 := Lib.hid hb3; clear hpl hb3; obtain ⟨fA, fn, fc, fs, dA, dn, dc, ds, en, cs⟩ := P; unfold pgV; dsimp only)
      obtain ⟨W4, hW4⟩ : ∃ x, (w3.alloc (.cells #[.slice fA fn fc, .slice dA dn dc, .int .i64 en] 30)).alloc (.cells #[.int .i64 r1, .int .i64 r2, .int .i64 r3] 55) = x := ⟨_, rfl⟩
      rw [hW4]
      have HW4 := Lib.hid (show Below w3.heap.size w3 W4 from by rw [← hW4]; exact to_ (alloc_ _ _) (alloc_ _ _))
      have HPX := Lib.hid (show Blk W4 w3.heap.size 30 #[.slice fA fn fc, .slice dA dn dc, .int .i64 en] from by rw [← hW4]; exact (Blk.new _ _ _).alloc _)
      clear hW4
      have HPL4 := Lib.hid (HPL.out.on HW4.out)
      have HB4 := Lib.hid (show Below w2.heap.size w2 W4 from to_ HB3.out HW4.out)
      have HBW := Lib.hid (show Below w.heap.size w W4 from to_ HB0.out (to_ HB2.out HB4.out))
      have HLT := Lib.hid (show w.heap.size + 2 ≤ w2.heap.size ∧ w2.heap.size ≤ w3.heap.size from ⟨by have := HB2.out.size; have := HS0.out; omega, HB3.out.size⟩)
      have HRX := Lib.hid (HRB2.out.below HB4.out.drew HRB2.out.lt)
      refine wp_region_noPanic ?_
      refine wp_region_held_drew (S := fun W => W.cell? ⟨w3.heap.size, 0, none⟩ = some (.slice fA fn fc) ∧ W.cell? ⟨w3.heap.size, 1, none⟩ = some (.slice dA dn dc) ∧ W.cell? ⟨w3.heap.size, 2, none⟩ = some (.int .i64 en)) (by kernel_rfl) (⟨HPX.out.cell 0, HPX.out.cell 1, HPX.out.cell 2⟩) (fun hHeld => ?_)
      refine wpAnyH_take (i := 0) rfl (by kernel_rfl) (by kernel_rfl) (by kernel_rfl) (fun _ _ _ h => h) (Or.inl ⟨by rfl, by intro W hSW; (try dsimp only at hSW); go_simp; try (with_reducible rfl)⟩) hHeld ?_
      try simp only [Act.put, List.getElem_toArray, List.getElem_cons_zero, List.getElem_cons_succ, List.setIfInBounds_toArray, List.set_cons_zero, List.set_cons_succ]
      refine wpAnyH_take (i := 1) rfl (by kernel_rfl) (by kernel_rfl) (by kernel_rfl) (fun _ _ _ h => h) (Or.inl ⟨by rfl, by intro W hSW; (try dsimp only at hSW); go_simp; try (with_reducible rfl)⟩) hHeld ?_
      try simp only [Act.put, List.getElem_toArray, List.getElem_cons_zero, List.getElem_cons_succ, List.setIfInBounds_toArray, List.set_cons_zero, List.set_cons_succ]
      refine wpAnyH_ready (rs := [2]) (by kernel_rfl) (by simp) ?_
      refine AllReadyH.cons rfl (fun K hK => ?_) AllReadyH.nil
      go_simp
      refine (few25_any W4.drew ⟨fA, fn, fc, fs, dA, dn, dc, ds, en, cs⟩ HPL4.out.fr HPL4.out.dr).mono ?_; rintro e w5 ⟨b2, rfl, hb5, hfe⟩; have HB5 := Lib.hid hb5; have HFE := Lib.hid hfe; clear hb5 hfe; have HRY := Lib.hid (HRX.out.below HB5.out HRX.out.lt); have s0 : w5.cell? ⟨w.heap.size + 1, 0, none⟩ = some (.slice none 0 0) := HRY.out.cell 0; have s1 : w5.cell? ⟨w.heap.size + 1, 1, none⟩ = some (.slice none 0 0) := HRY.out.cell 1; have s2 : w5.cell? ⟨w.heap.size + 1, 2, none⟩ = some (.int .i64 0) := HRY.out.cell 2; have f0 := HRY.out.frozen 0; have f1 := HRY.out.frozen 1; have f2 := HRY.out.frozen 2
      try go_wp2_with fail
      refine hK.out _ _ (⟨cell_on hHeld.1 HB5.out, cell_on hHeld.2.1 HB5.out, cell_on hHeld.2.2 HB5.out⟩) ?_
      clear hK K hHeld
      intro hHeld
      try simp only [Act.put, List.getElem_toArray, List.getElem_cons_zero, List.getElem_cons_succ, List.setIfInBounds_toArray, List.set_cons_zero, List.set_cons_succ]
      refine wpAnyH_ready (rs := [3]) (by kernel_rfl) (by simp) ?_
      refine AllReadyH.cons rfl (fun K hK => ?_) AllReadyH.nil
      go_simp
      have hne : w3.heap.size ≠ w.heap.size + 1 := by have := HLT.out; omega
      refine hK.out _ _ (⟨three_far hHeld.1 hne _ _ _, three_far hHeld.2.1 hne _ _ _, three_far hHeld.2.2 hne _ _ _⟩) ?_
      clear hK K hHeld hne
      intro hHeld
      try simp only [Act.put, List.getElem_toArray, List.getElem_cons_zero, List.getElem_cons_succ, List.setIfInBounds_toArray, List.set_cons_zero, List.set_cons_succ]
      refine wpAnyH_take (i := 4) rfl (by kernel_rfl) (by kernel_rfl) (by kernel_rfl) (fun _ _ _ h => h) (Or.inl ⟨by rfl, by intro W hSW; (try dsimp only at hSW); go_simp; try (with_reducible rfl)⟩) hHeld ?_
      try simp only [Act.put, List.getElem_toArray, List.getElem_cons_zero, List.getElem_cons_succ, List.setIfInBounds_toArray, List.set_cons_zero, List.set_cons_succ]
      refine wpAnyH_done (by kernel_rfl) ?_ _
      refine NoPanic.normal ?_
      go_wp2_with fail
      have hz := three_at HRY.out (.slice fA fn fc) (.slice dA dn dc) (.int .i64 en)
      have q0 := hz.cell 0
      have q1 := hz.cell 1
      have q2 := hz.cell 2
      have hfin := three_below (to_ HBW.out.drew HB5.out) (w.heap.size + 1) (by omega) (.slice fA fn fc) (.slice dA dn dc) (.int .i64 en)
      refine bodyPost_ret (v := .tuple #[pgV ⟨fA, fn, fc, fs, dA, dn, dc, ds, en, cs⟩, .bool b2]) (by simp [results, Try.results6, go_sem, pgV, q0, q1, q2]) rfl ⟨⟨fA, fn, fc, fs, dA, dn, dc, ds, en, cs⟩, b2, rfl, (fun hb => ?_), hfin⟩
      have hfe := HFE.out hb
      have hown := (PgO.later (PgO.later HPL4.out.own (Below.refl _ _).drew) HB5.out).three (w.heap.size + 1) (by have := HLT.out; omega) (.slice fA fn fc) (.slice dA dn dc) (.int .i64 en)
      have hlf : fs.length = fn := HPL4.out.fr.1
      have hld : ds.length = dn := HPL4.out.dr.1
      exact ⟨⟨own_wd encGf_len rfl hown.fr, own_wd encGd_len rfl hown.dr, hfe.1, hfe.2.1, hfe.2.2⟩, HN6.out⟩
end Go.Proofs.Ytbcabomblfehlab.Bo
