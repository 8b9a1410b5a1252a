/-
 Lz2
-/
import Derived.Test.YtdaimeaofgbfpaaGreatZa2
import Derived.Test.YtdaimeaofgbfpaaGreatNa2
import Derived.Test.YtdaimeaofgbfpaaGreatTq2
import Derived.Test.YtdaimeaofgbfpaaGreatTa2
set_option linter.unusedSimpArgs false
set_option linter.unusedVariables false
namespace Go.Proofs.YtdaimeaofgbfpaaGreat.Bo
open Go.RowKit Go.Maps
open Mem Rf
theorem keepsF {U : Nat → Prop} {w w' : World} {p : Addr} (h : Keeps U w w') (hU : U p.block) (hl : p.block < w.heap.size) (hf : w.frozen? p = false) : w'.frozen? p = false := (World.frozen?_of_block (h.block _ hU hl)).trans hf
theorem FnI.onl {w w' : World} {F : Fc} {x : By.Fn} (h : FnI w F x) (hb : Below w.heap.size w w') : FnI w' F x := ⟨h.fw.on hb, h.hk, h.hpd, h.hns, h.hf, h.ht, h.bd, h.wf⟩
theorem DtI.onl {w w' : World} {D : Dc} {ws : List Int} {rs : List By.Rl} (h : DtI w D ws rs) (hb : Below w.heap.size w w') : DtI w' D ws rs := ⟨h.hw.on hb, h.hl, h.hr.on hb, h.bd⟩
theorem ObI.onl {w w' : World} {o : Oj} {xs : Nat → By.Fn} {ws : Nat → List Int} {rs : Nat → List By.Rl} (h : ObI w o xs ws rs) (hb : Below w.heap.size w w') : ObI w' o xs ws rs := ⟨h.mem.on hb, h.kinds, fun k hk => (h.fns k hk).onl hb, fun k hk => (h.dats k hk).onl hb⟩
theorem OjsI.onl {w w' : World} {A : Option Addr} {n c : Nat} {os : List Oj} {xs : Nat → Nat → By.Fn} {ws : Nat → Nat → List Int} {rs : Nat → Nat → List By.Rl} (h : OjsI w A n c os xs ws rs) (hb : Below w.heap.size w w') : OjsI w' A n c os xs ws rs := ⟨h.mem.on hb, fun i hi => (h.each i hi).onl hb⟩
theorem blk2l {W : World} {t u : TypeId} {a c : Array Value} : Blk ((W.alloc (.cells a t)).alloc (.cells c u)) W.heap.size t a ∧ Blk ((W.alloc (.cells a t)).alloc (.cells c u)) (W.heap.size + 1) u c := by
 refine ⟨(Blk.new _ _ _).alloc _, ?_⟩
 have := Blk.new (W.alloc (.cells a t)) u c
 rwa [World.size_alloc] at this
set_option maxRecDepth 100000 in
set_option maxHeartbeats 16000000 in
theorem less26_any (w : World) (A : Option Addr) (n c : Nat) (os : List Oj) (xs : Nat → Nat → By.Fn) (ws : Nat → Nat → List Int) (rs : Nat → Nat → List By.Rl) (h : OjsI w A n c os xs ws rs) (x y : Int) :
  Calls Tryz.prog 5 #[.slice A n c, .agg #[.int .i64 x, .int .i64 y]] w fun e w' => e = .returned (.bool true) ∧ Below w.heap.size w w' := by
 have HFEW := Hd (fun W (hb : Below w.heap.size w W) => few_in (h.onl hb))
 clear h
 obtain ⟨W0, hW0⟩ : ∃ W0, w.alloc (.cells #[.int .i64 x, .int .i64 y] 23) = W0 := ⟨_, rfl⟩
 have HB0 := Hd (show Below w.heap.size w W0 from by rw [← hW0]; exact alloc_ _ _)
 have HAB := Hd (show Blk W0 w.heap.size 23 #[.int .i64 x, .int .i64 y] from by rw [← hW0]; exact Blk.new _ _ _)
 go_enter Tryz.func5, Tryz.ntmps5
 go_wp2_with (go_at_call 9; refine (HFEW.out W0 HB0.out).mono ?_; rintro e w2 ⟨⟨b, rfl, hj⟩, hb2⟩; have HJ := Hd hj; have HB2 := Hd hb2; clear hb2 hj hW0; cases b)
 ·go_wp2_with (go_at_call 10; refine (known26_any _).mono ?_; rintro e w7 ⟨rfl, hb7⟩; have HB7 := Hd hb7; clear hb7)
  refine bodyPost_ret (results_tmp rfl _ _ _) rfl ?_
  exact ⟨rfl, to_ HB0.out (to_ HB2.out HB7.out)⟩
 ·have HJ2 := Hd (HJ.out (by trivial))
  clear HJ
  go_wp2_with (go_at_call 11; refine (bind_in (HJ2.out.on HB2.out) _).mono ?_; rintro e w3 ⟨P, r1, r2, r3, rfl, hpl, hb3, -⟩; have HPL := Hd hpl; have HB3 := Hd hb3; clear hpl hb3; obtain ⟨fA, fn, fc, fs, dA, dn, dc, ds, en, cs⟩ := P; unfold pgV; dsimp only; obtain ⟨W4, hW4⟩ : ∃ x, (w3.alloc (.cells #[.slice fA fn fc, .slice dA dn dc, .int .i64 en] 29)).alloc (.cells #[.int .i64 r1, .int .i64 r2, .int .i64 r3] 32) = x := ⟨_, rfl⟩; have HW4 := Hd (show Below w3.heap.size w3 W4 from by rw [← hW4]; exact to_ (alloc_ _ _) (alloc_ _ _)); have HPX := Hd (show Blk W4 w3.heap.size 29 #[.slice fA fn fc, .slice dA dn dc, .int .i64 en] from by rw [← hW4]; exact blk2l.1); have HRX := Hd (show Blk W4 (w3.heap.size + 1) 32 #[.int .i64 r1, .int .i64 r2, .int .i64 r3] from by rw [← hW4]; exact blk2l.2); have HBW4 := Hd (show Below w.heap.size w W4 from to_ HB0.out (to_ HB2.out (to_ HB3.out HW4.out))); have HAX := Hd (HAB.out.below (to_ HB2.out (to_ HB3.out HW4.out)) HAB.out.lt); clear HJ2)
  have HSW := Hd (show w.heap.size < W0.heap.size ∧ W0.heap.size ≤ w2.heap.size ∧ w2.heap.size ≤ w3.heap.size ∧ w3.heap.size + 1 < W4.heap.size from ⟨HAB.out.lt, HB2.out.size, HB3.out.size, HRX.out.lt⟩)
  obtain ⟨p0, p1, p2⟩ := q3Z HPX.out
  have q0 : W4.cell? ⟨w3.heap.size + 1, 0, none⟩ = some (.int .i64 r1) := HRX.out.cell 0
  have a0 : W4.cell? ⟨w.heap.size, 0, none⟩ = some (.int .i64 x) := HAX.out.cell 0
  have a1 : W4.cell? ⟨w.heap.size, 1, none⟩ = some (.int .i64 y) := HAX.out.cell 1
  have HFW := Hd (few25_any W4.drew ⟨fA, fn, fc, fs, dA, dn, dc, ds, en, cs⟩ ((HPL.out.on HW4.out).on (Below.refl _ W4).drew).fr ((HPL.out.on HW4.out).on (Below.refl _ W4).drew).dr)
  unfold pgV at HFW
  dsimp only at HFW
  clear hW4
  refine wp_region_noPanic ?_
  by_cases hr : r1 = 0
  ·subst hr
   have HFWD := Hd (HFW.out)
   by_cases hx0 : x < 0
   ·refine wp_region_held_drew (S := fun W => W.cell? ⟨w3.heap.size + 1, 0, none⟩ = some (.int .i64 0) ∧ W.cell? ⟨w3.heap.size, 0, none⟩ = some (.slice fA fn fc) ∧ W.cell? ⟨w3.heap.size, 1, none⟩ = some (.slice dA dn dc) ∧ W.cell? ⟨w3.heap.size, 2, none⟩ = some (.int .i64 en) ∧ W.cell? ⟨w.heap.size, 0, none⟩ = some (.int .i64 x) ∧ W.cell? ⟨w.heap.size, 1, none⟩ = some (.int .i64 y)) (by kernel_rfl) (⟨q0, p0, p1, p2, a0, a1⟩) (fun hHeld => ?_)
    refine tk5Z 0 1 2 3 4 hHeld ?_
    have HFD := Hd (HFWD.out)
    refine rd1Z 5 (fun K hK => ?_)
    go_simp
    refine (HFD.out).mono ?_; rintro e w4 ⟨b2, rfl, hb4, hfe⟩; have HB4 := Hd hb4; have HFE := Hd hfe; clear hfe
    try go_wp2_with fail
    refine hK.out _ _ ((on6Z hHeld hb4)) ?_
    clear hK K hHeld hb4
    intro hHeld
    try simp only [Act.put, nmZ]
    cases b2
    focus
     refine tk3Z 6 7 8 hHeld ?_
     refine tf3Z 9 10 11 hHeld ?_
     refine tk2Z 12 13 hHeld ?_
    rotate_left
    focus
     refine tk8Z 6 7 8 9 10 11 12 13 hHeld ?_
    rotate_left
    all_goals
     refine tf6Z 14 15 16 17 18 19 hHeld ?_
     refine tk2Z 20 21 hHeld ?_
     refine tf3Z 22 23 24 hHeld ?_
     refine tk2Z 25 26 hHeld ?_
     refine tf8Z 27 28 29 30 31 32 33 34 hHeld ?_
     refine tf3Z 35 36 37 hHeld ?_
     refine tk1Z 38 hHeld ?_
     refine wpAnyH_done (by kernel_rfl) ?_ _
     refine NoPanic.normal ?_
     go_wp2_with (go_at_call 10; refine (known26_any _).mono ?_; rintro e w7 ⟨rfl, hb7⟩; have HB7 := Hd hb7; clear hb7)
     refine bodyPost_ret (results_tmp rfl _ _ _) rfl ?_
     exact ⟨rfl, to_ HBW4.out (to_ (to_ (Below.refl _ W4).drew HB4.out) HB7.out)⟩
   ·by_cases hxn : (fn : Int) ≤ x
    ·have d0 : decide (x < 0) = false := decide_eq_false hx0
     have d1 : decide ((fn : Int) ≤ x) = true := decide_eq_true hxn
     have d2 : decide (x ≥ (fn : Int)) = true := decide_eq_true hxn
     refine wp_region_held_drew (S := fun W => W.cell? ⟨w3.heap.size + 1, 0, none⟩ = some (.int .i64 0) ∧ W.cell? ⟨w3.heap.size, 0, none⟩ = some (.slice fA fn fc) ∧ W.cell? ⟨w3.heap.size, 1, none⟩ = some (.slice dA dn dc) ∧ W.cell? ⟨w3.heap.size, 2, none⟩ = some (.int .i64 en) ∧ W.cell? ⟨w.heap.size, 0, none⟩ = some (.int .i64 x) ∧ W.cell? ⟨w.heap.size, 1, none⟩ = some (.int .i64 y)) (by kernel_rfl) (⟨q0, p0, p1, p2, a0, a1⟩) (fun hHeld => ?_)
     refine tk5Z 0 1 2 3 4 hHeld ?_
     have HFD := Hd (HFWD.out)
     refine rd1Z 5 (fun K hK => ?_)
     go_simp
     refine (HFD.out).mono ?_; rintro e w4 ⟨b2, rfl, hb4, hfe⟩; have HB4 := Hd hb4; have HFE := Hd hfe; clear hfe
     try go_wp2_with fail
     refine hK.out _ _ ((on6Z hHeld hb4)) ?_
     clear hK K hHeld hb4
     intro hHeld
     try simp only [Act.put, nmZ]
     cases b2
     focus
      refine tk3Z 6 7 8 hHeld ?_
      refine tf3Z 9 10 11 hHeld ?_
      refine tk2Z 12 13 hHeld ?_
      refine tf6Z 14 15 16 17 18 19 hHeld ?_
      refine tk2Z 20 21 hHeld ?_
     rotate_left
     focus
      refine tk8Z 6 7 8 9 10 11 12 13 hHeld ?_
      refine tk8Z 14 15 16 17 18 19 20 21 hHeld ?_
     rotate_left
     all_goals
      refine tf3Z 22 23 24 hHeld ?_
      refine tk2Z 25 26 hHeld ?_
      refine tf8Z 27 28 29 30 31 32 33 34 hHeld ?_
      refine tf3Z 35 36 37 hHeld ?_
      refine tk1Z 38 hHeld ?_
      refine wpAnyH_done (by kernel_rfl) ?_ _
      refine NoPanic.normal ?_
      go_wp2_with (go_at_call 10; refine (known26_any _).mono ?_; rintro e w7 ⟨rfl, hb7⟩; have HB7 := Hd hb7; clear hb7)
      refine bodyPost_ret (results_tmp rfl _ _ _) rfl ?_
      exact ⟨rfl, to_ HBW4.out (to_ (to_ (Below.refl _ W4).drew HB4.out) HB7.out)⟩
    ·obtain ⟨a, rfl⟩ := Int.eq_ofNat_of_zero_le (show 0 ≤ x by omega)
     have haf : a < fn := by omega
     have haI : (a : Int) < (fn : Int) := by omega
     have ha0 : (0 : Int) ≤ (a : Int) := by omega
     have d0 : decide ((a : Int) < 0) = false := decide_eq_false (by omega)
     have d1 : decide ((fn : Int) ≤ (a : Int)) = false := decide_eq_false (by omega)
     have d2 : decide (fn ≤ a) = false := decide_eq_false (by omega)
     have hPL := HPL.out.on HW4.out
     have HAD := Hd (gf_at hPL.fr haf)
     have hrl := (own_slV (hPL.own.fref _ (List.mem_of_getElem? (gfAt_some (by rw [hPL.fr.1]; exact haf))))).1
     clear hPL
     obtain ⟨ad, hA, _, _, hcs⟩ := HAD.out
     dsimp only at hA
     subst hA
     have cR : W4.cell? ⟨(ad.add (a * 13)).block, (ad.add (a * 13)).off + 12, none⟩ = some (slV (gfAt fs a).R) := hcs 11 _ rfl
     have cC : W4.cell? ⟨(ad.add (a * 13)).block, (ad.add (a * 13)).off + 10, none⟩ = some (slV (gfAt fs a).F.code) := hcs 9 _ rfl
     obtain ⟨RR, hRR⟩ : ∃ RR, (gfAt fs a).R = RR := ⟨_, rfl⟩
     dsimp only at hrl
     rw [hRR] at cR hrl
     obtain ⟨R1, R2, R3⟩ := RR
     unfold slV at cR
     dsimp only at cR hrl
     have HRR := Hd hRR
     have HCC := Hd cC
     have HRL := Hd hrl
     clear hRR cC hcs hrl
     by_cases hy0 : y < 0
     ·refine wp_region_held_drew (S := fun W => W.cell? ⟨w3.heap.size + 1, 0, none⟩ = some (.int .i64 0) ∧ W.cell? ⟨w3.heap.size, 0, none⟩ = some (.slice (some ad) fn fc) ∧ W.cell? ⟨w3.heap.size, 1, none⟩ = some (.slice dA dn dc) ∧ W.cell? ⟨w3.heap.size, 2, none⟩ = some (.int .i64 en) ∧ W.cell? ⟨w.heap.size, 0, none⟩ = some (.int .i64 (a : Int)) ∧ W.cell? ⟨w.heap.size, 1, none⟩ = some (.int .i64 y) ∧ W.cell? ⟨(ad.add (a * 13)).block, (ad.add (a * 13)).off + 12, none⟩ = some (.slice R1 R2 R3)) (by kernel_rfl) (⟨q0, p0, p1, p2, a0, a1, cR⟩) (fun hHeld => ?_)
      refine tk5Z 0 1 2 3 4 hHeld ?_
      have HFD := Hd (HFWD.out)
      refine rd1Z 5 (fun K hK => ?_)
      go_simp
      refine (HFD.out).mono ?_; rintro e w4 ⟨b2, rfl, hb4, hfe⟩; have HB4 := Hd hb4; have HFE := Hd hfe; clear hfe
      try go_wp2_with fail
      refine hK.out _ _ ((on7Z hHeld hb4)) ?_
      clear hK K hHeld hb4
      intro hHeld
      try simp only [Act.put, nmZ]
      cases b2
      focus
       refine tk3Z 6 7 8 hHeld ?_
       refine tf3Z 9 10 11 hHeld ?_
       refine tk2Z 12 13 hHeld ?_
       refine tf6Z 14 15 16 17 18 19 hHeld ?_
       refine tk2Z 20 21 hHeld ?_
       refine tf3Z 22 23 24 hHeld ?_
       refine tk2Z 25 26 hHeld ?_
      rotate_left
      focus
       refine tk8Z 6 7 8 9 10 11 12 13 hHeld ?_
       refine tk8Z 14 15 16 17 18 19 20 21 hHeld ?_
       refine tk5Z 22 23 24 25 26 hHeld ?_
      rotate_left
      all_goals
       refine tf8Z 27 28 29 30 31 32 33 34 hHeld ?_
       refine tf3Z 35 36 37 hHeld ?_
       refine tk1Z 38 hHeld ?_
       refine wpAnyH_done (by kernel_rfl) ?_ _
       refine NoPanic.normal ?_
       go_wp2_with (go_at_call 10; refine (known26_any _).mono ?_; rintro e w7 ⟨rfl, hb7⟩; have HB7 := Hd hb7; clear hb7)
       refine bodyPost_ret (results_tmp rfl _ _ _) rfl ?_
       exact ⟨rfl, to_ HBW4.out (to_ (to_ (Below.refl _ W4).drew HB4.out) HB7.out)⟩
     ·by_cases hyn : (R2 : Int) ≤ y
      ·have d3 : decide (y < 0) = false := decide_eq_false hy0
       have d4 : decide ((R2 : Int) ≤ y) = true := decide_eq_true hyn
       have d5 : decide (y ≥ (R2 : Int)) = true := decide_eq_true hyn
       refine wp_region_held_drew (S := fun W => W.cell? ⟨w3.heap.size + 1, 0, none⟩ = some (.int .i64 0) ∧ W.cell? ⟨w3.heap.size, 0, none⟩ = some (.slice (some ad) fn fc) ∧ W.cell? ⟨w3.heap.size, 1, none⟩ = some (.slice dA dn dc) ∧ W.cell? ⟨w3.heap.size, 2, none⟩ = some (.int .i64 en) ∧ W.cell? ⟨w.heap.size, 0, none⟩ = some (.int .i64 (a : Int)) ∧ W.cell? ⟨w.heap.size, 1, none⟩ = some (.int .i64 y) ∧ W.cell? ⟨(ad.add (a * 13)).block, (ad.add (a * 13)).off + 12, none⟩ = some (.slice R1 R2 R3)) (by kernel_rfl) (⟨q0, p0, p1, p2, a0, a1, cR⟩) (fun hHeld => ?_)
       refine tk5Z 0 1 2 3 4 hHeld ?_
       have HFD := Hd (HFWD.out)
       refine rd1Z 5 (fun K hK => ?_)
       go_simp
       refine (HFD.out).mono ?_; rintro e w4 ⟨b2, rfl, hb4, hfe⟩; have HB4 := Hd hb4; have HFE := Hd hfe; clear hfe
       try go_wp2_with fail
       refine hK.out _ _ ((on7Z hHeld hb4)) ?_
       clear hK K hHeld hb4
       intro hHeld
       try simp only [Act.put, nmZ]
       cases b2
       focus
        refine tk3Z 6 7 8 hHeld ?_
        refine tf3Z 9 10 11 hHeld ?_
        refine tk2Z 12 13 hHeld ?_
        refine tf6Z 14 15 16 17 18 19 hHeld ?_
        refine tk2Z 20 21 hHeld ?_
        refine tf3Z 22 23 24 hHeld ?_
        refine tk2Z 25 26 hHeld ?_
        refine tf8Z 27 28 29 30 31 32 33 34 hHeld ?_
        refine tf3Z 35 36 37 hHeld ?_
       rotate_left
       focus
        refine tk8Z 6 7 8 9 10 11 12 13 hHeld ?_
        refine tk8Z 14 15 16 17 18 19 20 21 hHeld ?_
        refine tk8Z 22 23 24 25 26 27 28 29 hHeld ?_
        refine tk8Z 30 31 32 33 34 35 36 37 hHeld ?_
       rotate_left
       all_goals
        refine tk1Z 38 hHeld ?_
        refine wpAnyH_done (by kernel_rfl) ?_ _
        refine NoPanic.normal ?_
        go_wp2_with (go_at_call 10; refine (known26_any _).mono ?_; rintro e w7 ⟨rfl, hb7⟩; have HB7 := Hd hb7; clear hb7)
        refine bodyPost_ret (results_tmp rfl _ _ _) rfl ?_
        exact ⟨rfl, to_ HBW4.out (to_ (to_ (Below.refl _ W4).drew HB4.out) HB7.out)⟩
      ·obtain ⟨b, rfl⟩ := Int.eq_ofNat_of_zero_le (show 0 ≤ y by omega)
       have hbR : b < R2 := by omega
       have d3 : decide ((b : Int) < 0) = false := decide_eq_false (by omega)
       have d4 : decide ((R2 : Int) ≤ (b : Int)) = false := decide_eq_false (by omega)
       have d5 : decide (R2 ≤ b) = false := decide_eq_false (by omega)
       have hbI : (b : Int) < (R2 : Int) := by omega
       have hb0 : (0 : Int) ≤ (b : Int) := by omega
       refine wp_region_held_drew (S := fun W => W.cell? ⟨w3.heap.size + 1, 0, none⟩ = some (.int .i64 0) ∧ W.cell? ⟨w3.heap.size, 0, none⟩ = some (.slice (some ad) fn fc) ∧ W.cell? ⟨w3.heap.size, 1, none⟩ = some (.slice dA dn dc) ∧ W.cell? ⟨w3.heap.size, 2, none⟩ = some (.int .i64 en) ∧ W.cell? ⟨w.heap.size, 0, none⟩ = some (.int .i64 (a : Int)) ∧ W.cell? ⟨w.heap.size, 1, none⟩ = some (.int .i64 (b : Int)) ∧ W.cell? ⟨(ad.add (a * 13)).block, (ad.add (a * 13)).off + 12, none⟩ = some (.slice R1 R2 R3)) (by kernel_rfl) (⟨q0, p0, p1, p2, a0, a1, cR⟩) (fun hHeld => ?_)
       refine tk5Z 0 1 2 3 4 hHeld ?_
       have HFD := Hd (HFWD.out)
       refine rd1Z 5 (fun K hK => ?_)
       go_simp
       refine (HFD.out).mono ?_; rintro e w4 ⟨b2, rfl, hb4, hfe⟩; have HB4 := Hd hb4; have HFE := Hd hfe; clear hfe
       try go_wp2_with fail
       refine hK.out _ _ ((on7Z hHeld hb4)) ?_
       clear hK K hHeld hb4
       intro hHeld
       try simp only [Act.put, nmZ]
       cases b2
       ·refine tk3Z 6 7 8 hHeld ?_
        refine tf3Z 9 10 11 hHeld ?_
        refine tk2Z 12 13 hHeld ?_
        refine tf6Z 14 15 16 17 18 19 hHeld ?_
        refine tk2Z 20 21 hHeld ?_
        refine tf3Z 22 23 24 hHeld ?_
        refine tk2Z 25 26 hHeld ?_
        refine tf8Z 27 28 29 30 31 32 33 34 hHeld ?_
        refine tf3Z 35 36 37 hHeld ?_
        refine tk1Z 38 hHeld ?_
        refine wpAnyH_done (by kernel_rfl) ?_ _
        refine NoPanic.normal ?_
        go_wp2_with (go_at_call 10; refine (known26_any _).mono ?_; rintro e w7 ⟨rfl, hb7⟩; have HB7 := Hd hb7; clear hb7)
        refine bodyPost_ret (results_tmp rfl _ _ _) rfl ?_
        exact ⟨rfl, to_ HBW4.out (to_ (to_ (Below.refl _ W4).drew HB4.out) HB7.out)⟩
       ·refine tk8Z 6 7 8 9 10 11 12 13 hHeld ?_
        refine tk8Z 14 15 16 17 18 19 20 21 hHeld ?_
        refine tk8Z 22 23 24 25 26 27 28 29 hHeld ?_
        refine tk8Z 30 31 32 33 34 35 36 37 hHeld ?_
        refine tk1Z 38 hHeld ?_
        refine wpAnyH_done (by kernel_rfl) ?_ _
        refine NoPanic.normal ?_
        have HFE9 := Hd (HFE.out (by trivial))
        have HPL4 := Hd ((HPL.out.on HW4.out).on (to_ (Below.refl _ W4).drew HB4.out))
        have HRP := Hd (fun W (hb : Below w4.heap.size w4 W) => (HPL4.out.rd HFE9.out).on hb)
        have HLV := Hd (fun W (hb : Below w4.heap.size w4 W) => live_any W ⟨some ad, fn, fc, fs, dA, dn, dc, ds, en, cs⟩ (HRP.out W hb))
        have HBW := Hd (show Below w.heap.size w w4 from to_ HBW4.out (to_ (Below.refl _ W4).drew HB4.out))
        have HS4 := Hd (show W4.heap.size ≤ w4.heap.size from HB4.out.size)
        obtain ⟨e0, e1, e2, e3, e4, e5, e6⟩ := hHeld
        have hPL := HPL4.out
        have hlen : R2 = (gfAt fs a).F.code.2.1 := by have h1 := hPL.lenF a haf; have h2 := HRL.out; dsimp only at h1; omega
        have hR2 : (gfAt fs a).refs.length = R2 := HRL.out.symm
        obtain ⟨gF, hgF, hBF, hltF⟩ := own_addr hPL.own.fr (by rw [hPL.fr.1]; exact Nat.lt_of_le_of_lt (Nat.zero_le _) haf)
        dsimp only at hgF
        injection hgF with hgF
        have HAD9 := Hd hgF
        have hadd : ad.add (a * 13) = ⟨gF, a * 13, none⟩ := by rw [hgF, add_plain, Nat.zero_add]
        have HADD := Hd hadd
        have HLTF := Hd hltF
        obtain ⟨CC, hCC⟩ : ∃ CC, (gfAt fs a).F.code = CC := ⟨_, rfl⟩
        have cC := cell_on HCC.out (to_ (Below.refl _ W4).drew HB4.out)
        rw [hCC] at cC hlen
        obtain ⟨C1, m, C3⟩ := CC
        unfold slV at cC
        dsimp only at cC hlen
        obtain rfl : m = R2 := hlen.symm
        have hcode := (HRP.out w4 (Below.refl _ _)).fns a haf
        have hm80 := hcode.few.1
        have hcs := hcode.code
        dsimp only at hcs hm80
        rw [hCC] at hcs hm80
        dsimp only at hcs hm80
        have HCS := Hd hcs
        have HCL := Hd hcs.1
        have hfr10 : w4.frozen? ⟨(ad.add (a * 13)).block, (ad.add (a * 13)).off + 10, none⟩ = false := by
         rw [hadd]
         have hfr' := hPL.own.fr
         rw [show fs.length = fn from hPL.fr.1] at hfr'
         dsimp only at hfr'
         rw [hgF] at hfr'
         exact hfr'.frozenAt _
        clear hadd hgF
        have HM80 := Hd hm80
        have HCCC := Hd hCC
        have HFN := Hd (show a < fn from haf)
        have HBR := Hd hbR
        have HR2 := Hd hR2
        unfold pgV at HLV
        dsimp only at HLV
        obtain ⟨iI, hiI, hzI0, hzI1, hzI2⟩ := info_parts infoInL
        clear hcode hcs hCC hPL e0 hm80 hR2
        go_wp2_with (first
         | (go_at_call 15; go_loud (refine (HLV.out w4 (Below.refl _ _)).mono ?_; rintro e vx1 ⟨A1, c1, rfl, hbl, hb, hlo⟩; have HX1 := Hd hb; have HA1 := Hd hbl; have HLO := Hd hlo; have e1 := cell_on e1 hb; have e2 := cell_on e2 hb; have e3 := cell_on e3 hb; have e4 := cell_on e4 hb; have e5 := cell_on e5 hb; have e6 := cell_on e6 hb; have cC := cell_on cC hb; have hcs := (By.Wd.below HCS.out hb).more hb.size; clear hb hbl hlo))
         | (at_builtin; go_loud (refine list_append_wd (enc := By.encIn) _ rfl _ _ 46 rfl vx1.heap.size 53 iI (.agg #[.int .i64 0, .int .i64 0, .int .i64 0, .int .i64 0, .int .i64 0]) 5 40 Tryz.underlying46 hiI hzI0 hzI1 hzI2 rfl (by decide) (fun _ => rfl) (fun x u hu => by simp [By.encIn] at hu; rcases hu with rfl | rfl | rfl | rfl | rfl <;> rfl) _ 0 [] rfl (World.ownsRow_nil _ _ _ _) C1 m C3 (cs a) rfl hcs (by have := HM80.out; unfold maxLen; omega) (by have := HM80.out; omega) (Nat.le_refl _) ?_; intro v6 w6 h2 h3 _; clear hcs; rw [Nat.zero_add, List.nil_append] at h2; obtain ⟨A6, c6, hv6⟩ := By.own_formW h2; subst hv6; obtain ⟨g6, hA6, hB6, hlt6⟩ := own_addr h2 (by omega); subst hA6; have hbb : Below vx1.heap.size vx1 w6 := (Below.refl _ _).grown h3 (Nat.le_refl _) (fun r e => by cases e); have hb46 : Below w4.heap.size w4 w6 := to_ HX1.out hbb; have e1 := cell_on e1 hbb; have e2 := cell_on e2 hbb; have e3 := cell_on e3 hbb; have e4 := cell_on e4 hbb; have e5 := cell_on e5 hbb; have e6 := cell_on e6 hbb; have cC := cell_on cC hbb; have hf6 : w6.frozen? ⟨(ad.add (a * 13)).block, (ad.add (a * 13)).off + 10, none⟩ = false := (World.frozen?_of_block (hb46.block _ (by rw [HADD.out]; exact HLTF.out))).trans hfr10; clear hfr10; obtain ⟨u0, y0, z0⟩ := nop_cells h2 HCL.out (b := b) (by omega) 0 (by omega); obtain ⟨u1, y1, z1⟩ := nop_cells h2 HCL.out (b := b) (by omega) 1 (by omega); obtain ⟨u2, y2, z2⟩ := nop_cells h2 HCL.out (b := b) (by omega) 2 (by omega); obtain ⟨u3, y3, z3⟩ := nop_cells h2 HCL.out (b := b) (by omega) 3 (by omega); obtain ⟨u4, y4, z4⟩ := nop_cells h2 HCL.out (b := b) (by omega) 4 (by omega); rw [Nat.add_zero] at y0 z0; obtain ⟨w7, hW7⟩ : ∃ x, ((((w6.setCell ⟨g6, b * 5, none⟩ (.int .i64 1)).setCell ⟨g6, b * 5 + 1, none⟩ (.int .i64 0)).setCell ⟨g6, b * 5 + 2, none⟩ (.int .i64 0)).setCell ⟨g6, b * 5 + 3, none⟩ (.int .i64 0)).setCell ⟨g6, b * 5 + 4, none⟩ (.int .i64 0) = x := ⟨_, rfl⟩; have hk7 : Keeps (fun k => k ≠ g6) w6 w7 := (by rw [← hW7]; exact w5_keeps); have hs7 : w7.ownsRow vx1.heap.size 53 5 (.slice (some ⟨g6, 0, none⟩) m c6) m (((cs a).set b nopI).flatMap By.encIn) := (by rw [← hW7]; exact nop_stored h2 HCL.out (by omega)); have hb47 : Below w4.heap.size w4 w7 := hb46.trans (hk7.below (Nat.le_trans HX1.out.size hbb.size) (fun k hk => by have := HX1.out.size; omega)); have hx4 := HX1.out.size; have hs4 := HS4.out; have hsw := HSW.out; have b1 : (ad.add (a * 13)).block ≠ g6 := (by rw [HADD.out]; have := HLTF.out; show gF ≠ g6; omega); have e1 : w7.cell? ⟨w3.heap.size, 0, none⟩ = _ := hk7.cell (by show w3.heap.size ≠ g6; omega) e1; have e2 : w7.cell? ⟨w3.heap.size, 1, none⟩ = _ := hk7.cell (by show w3.heap.size ≠ g6; omega) e2; have e3 : w7.cell? ⟨w3.heap.size, 2, none⟩ = _ := hk7.cell (by show w3.heap.size ≠ g6; omega) e3; have e4' : w7.cell? ⟨w.heap.size, 0, none⟩ = _ := hk7.cell (by show w.heap.size ≠ g6; omega) e4; have e5' : w7.cell? ⟨w.heap.size, 1, none⟩ = _ := hk7.cell (by show w.heap.size ≠ g6; omega) e5; have e6 : w7.cell? ⟨(ad.add (a * 13)).block, (ad.add (a * 13)).off + 12, none⟩ = _ := hk7.cell b1 e6; have cC7 : w7.cell? ⟨(ad.add (a * 13)).block, (ad.add (a * 13)).off + 10, none⟩ = _ := hk7.cell b1 cC; have hf7 : w7.frozen? ⟨(ad.add (a * 13)).block, (ad.add (a * 13)).off + 10, none⟩ = false := keepsF (p := ⟨(ad.add (a * 13)).block, (ad.add (a * 13)).off + 10, none⟩) hk7 b1 (World.block_lt_of_cell? w6 _ cC) hf6; obtain ⟨gF', gR, hgF', hgR, hFR, hlF, hlR, hBF', hBR', hty, _, _, c1R, f1R, hPGR⟩ := less_in (HPL4.out.on hb47) HFE9.out HFN.out (b := b) (by have := HR2.out; dsimp only at this ⊢; omega) (m := m) (by have := HCCC.out; dsimp only at this ⊢; rw [this]) hs7; have hgg : gF' = gF := (by have h := HAD9.out; dsimp only at hgF'; rw [h] at hgF'; injection hgF' with hgF'; injection hgF' with e; exact e.symm); subst hgg; have hRR1 : R1 = some ⟨gR, 0, none⟩ := (by have h := HRR.out; dsimp only at hgR; rw [h] at hgR; exact hgR); subst hRR1; obtain ⟨w8, hW8⟩ : ∃ x, w7.setCell ⟨(ad.add (a * 13)).block, (ad.add (a * 13)).off + 10, none⟩ (.slice (some ⟨g6, 0, none⟩) m c6) = x := ⟨_, rfl⟩; have hw8 : w7.setCell ⟨gF', a * 13 + 10, none⟩ (.slice (some ⟨g6, 0, none⟩) m c6) = w8 := (by rw [← hW8, HADD.out]); rw [hw8] at hPGR; have hk8 : Keeps (fun k => k ≠ gF') w7 w8 := (by rw [← hw8]; exact (Keeps.refl (fun k => k ≠ gF') w7).setCell (by simp) _); have hbx7 := HPX.out.below (to_ (to_ (Below.refl _ W4).drew HB4.out) hb47) HPX.out.lt; have hax7 := HAX.out.below (to_ (to_ (Below.refl _ W4).drew HB4.out) hb47) HAX.out.lt; have d1 := hty _ _ _ hbx7 (by decide) (by decide); have d2 := hty _ _ _ hax7 (by decide) (by decide); have t1 : w8.cell? ⟨w3.heap.size, 0, none⟩ = _ := hk8.cell d1.1 e1; have t2 : w8.cell? ⟨w3.heap.size, 1, none⟩ = _ := hk8.cell d1.1 e2; have t3 : w8.cell? ⟨w3.heap.size, 2, none⟩ = _ := hk8.cell d1.1 e3; have t4 : w8.cell? ⟨w.heap.size, 0, none⟩ = _ := hk8.cell d2.1 e4'; have t5 : w8.cell? ⟨w.heap.size, 1, none⟩ = _ := hk8.cell d2.1 e5'; have t6 : w8.cell? ⟨(ad.add (a * 13)).block, (ad.add (a * 13)).off + 12, none⟩ = some (.slice (some ⟨gR, 0, none⟩) m R3) := (by have h := e6; rw [HADD.out] at h ⊢; rw [← hw8, World.cell?_setCell_other _ _ _ _ (by simp)]; exact h); have cR8 : w8.cell? ⟨gR, b, none⟩ = _ := hk8.cell (fun e => hFR e.symm) c1R; have fR8 : w8.frozen? ⟨gR, b, none⟩ = false := keepsF (p := ⟨gR, b, none⟩) hk8 (fun e => hFR e.symm) hlR f1R; have HW7 := Hd hb47; have HK7 := Hd hk7; have HK8 := Hd hk8; have HPG := Hd hPGR; have HBB := Hd hbb; have HD1 := Hd d1; have HD2 := Hd d2; have HLR := Hd hlR; have HB6 := Hd hB6; have HBR9 := Hd hBR'; have HBF9 := Hd hBF'; clear hPGR hb47 hbx7 hax7 d1 d2 hty c1R f1R hk7 hs7 h2 h3 hbb hb46 hf6 hgR)))
        have cR9 : w8.drew.cell? ⟨gR, b, none⟩ = _ := cR8
        have fR9 : w8.drew.frozen? ⟨gR, b, none⟩ = false := fR8
        have HT1 := Hd t1
        have HT2 := Hd t2
        have HT3 := Hd t3
        have HGR := Hd hgF'
        clear hgF' b1
        refine wp_region_noPanic ?_
        refine wp_region_held_drew (S := fun W => W.cell? ⟨w3.heap.size, 0, none⟩ = some (.slice (some ad) fn fc) ∧ W.cell? ⟨w.heap.size, 0, none⟩ = some (.int .i64 (a : Int)) ∧ W.cell? ⟨w.heap.size, 1, none⟩ = some (.int .i64 (b : Int)) ∧ W.cell? ⟨(ad.add (a * 13)).block, (ad.add (a * 13)).off + 12, none⟩ = some (.slice (some ⟨gR, 0, none⟩) m R3)) (by kernel_rfl) (⟨t1, t4, t5, t6⟩) (fun hHeld => ?_)
        refine tk8Z 0 1 2 3 4 5 6 7 hHeld ?_
        refine tk2Z 8 9 hHeld ?_
        refine rd1Z 10 (fun K hK => ?_)
        go_simp
        refine hK.out _ _ (⟨((Keeps.refl (fun k => k ≠ gR) _).setCell (p := ⟨gR, b, none⟩) (by simp) _).cell (by exact HD1.out.2) hHeld.1, ((Keeps.refl (fun k => k ≠ gR) _).setCell (p := ⟨gR, b, none⟩) (by simp) _).cell (by exact HD2.out.2) hHeld.2.1, ((Keeps.refl (fun k => k ≠ gR) _).setCell (p := ⟨gR, b, none⟩) (by simp) _).cell (by exact HD2.out.2) hHeld.2.2.1, ((Keeps.refl (fun k => k ≠ gR) _).setCell (p := ⟨gR, b, none⟩) (by simp) _).cell (by show (ad.add (a * 13)).block ≠ gR; rw [HADD.out]; exact hFR) hHeld.2.2.2⟩) ?_
        clear hK K hHeld
        intro hHeld
        try simp only [Act.put, nmZ]
        refine wpAnyH_done (by kernel_rfl) ?_ _
        refine NoPanic.normal ?_
        generalize hW9 : (w8.setCell ⟨gR, b, none⟩ (.int .i64 (-1))).drew = w9
        have hw9 : PgR w9 (nopP ⟨some ad, fn, fc, fs, dA, dn, dc, ds, en, cs⟩ a b (some ⟨g6, 0, none⟩, m, c6)) := by rw [← hW9]; exact HPG.out.on ((Below.refl _ _).drew)
        have HLV2 := Hd (show Calls Tryz.prog 15 #[.agg #[.slice (some ad) fn fc, .slice dA dn dc, .int .i64 en]] w9 (BlA w9 fn (liveB (nopP ⟨some ad, fn, fc, fs, dA, dn, dc, ds, en, cs⟩ a b (some ⟨g6, 0, none⟩, m, c6)))) from live_any w9 _ hw9)
        have HLS := Hd (fun v => live_less (P := ⟨some ad, fn, fc, fs, dA, dn, dc, ds, en, cs⟩) (a := a) (b := b) (R := (some ⟨g6, 0, none⟩, m, c6)) (by have h := HCCC.out; dsimp only at h ⊢; rw [h]) (by have h := HPL4.out.fr.1; dsimp only at h ⊢; rw [h]; exact HFN.out) (by have h := HCCC.out; have h2 := HCL.out; dsimp only at h h2 ⊢; rw [h]; exact Nat.le_of_eq h2.symm) (v := v))
        generalize liveB (nopP ⟨some ad, fn, fc, fs, dA, dn, dc, ds, en, cs⟩ a b (some ⟨g6, 0, none⟩, m, c6)) = fb at HLV2 HLS
        generalize liveB ⟨some ad, fn, fc, fs, dA, dn, dc, ds, en, cs⟩ = fa at HA1 HLS
        have hk9 : Keeps (fun k => k ≠ gR) w8 w9 := by rw [← hW9]; exact ((Keeps.refl (fun k => k ≠ gR) w8).setCell (p := ⟨gR, b, none⟩) (by simp) _).drew
        have r1 : w9.cell? ⟨w3.heap.size, 0, none⟩ = _ := hk9.cell HD1.out.2 HT1.out
        have r2 : w9.cell? ⟨w3.heap.size, 1, none⟩ = _ := hk9.cell HD1.out.2 HT2.out
        have r3 : w9.cell? ⟨w3.heap.size, 2, none⟩ = _ := hk9.cell HD1.out.2 HT3.out
        have hRlt : gR < w4.heap.size := by
         have h := (HPL4.out.own.fref _ (List.mem_of_getElem? (gfAt_some (by rw [HPL4.out.fr.1]; exact HFN.out)))).lt gR (by have h2 := HRR.out; dsimp only at h2 ⊢; rw [h2]; rfl)
         exact h.2
        have hx := HX1.out.size
        have h6 := HB6.out
        have hFl := HLTF.out
        have hKA : Keeps (fun k => w4.heap.size ≤ k ∧ k < vx1.heap.size) vx1 w9 := (((Keeps.of_below (U := fun k => w4.heap.size ≤ k ∧ k < vx1.heap.size) HBB.out (fun k hk _ => hk.2)).trans (HK7.out.mono fun k hk _ => by omega)).trans (HK8.out.mono fun k hk _ => by omega)).trans (hk9.mono fun k hk _ => by omega)
        have HKA := Hd hKA
        have hsw := HSW.out
        have hbf := HBF9.out
        have hbr := HBR9.out
        have hw2w : w.heap.size ≤ w2.heap.size := by omega
        have hall : Below w.heap.size w w9 := (((to_ HBW.out HW7.out)).trans (HK8.out.below (Nat.le_trans HBW.out.size HW7.out.size) (fun k hk => by omega))).trans (hk9.below (by have := HK8.out.size; have := HW7.out.size; have := HBW.out.size; omega) (fun k hk => by omega))
        have HALL := Hd hall
        clear hw9 hk9 hKA hall hx h6 hFl hRlt hsw hbf hbr hw2w hW9 cR8 fR8 cR9 fR9 hHeld t1 t2 t3 t4 t5 t6 e1 e2 e3 e4 e5 e6 cC cC7 hf7 y0 y1 y2 y3 y4 z0 z1 z2 z3 z4 hW7 hW8 hw8
        go_wp2_with (go_at_call 15; go_loud (refine HLV2.out.mono ?_; rintro e z9 ⟨A2, c2, rfl, hbl, hb, _⟩; have HZ := Hd hb; have HA2 := Hd hbl; have r1 := cell_on r1 hb; have r2 := cell_on r2 hb; have r3 := cell_on r3 hb; clear hb hbl))
        have HAR := Hd (fun i (hi : i < fn) => (show ∃ ad1, A1 = some ad1 ∧ z9.cell? (ad1.add i) = some (.bool (fa i)) from by
         obtain ⟨ad1, e, h1, h2⟩ := HA1.out.at_ hi
         rw [blist_at hi] at h2
         have h3 := HLO.out ad1 e
         have hq := HKA.out.cell (p := ad1.add i) (by rw [add_block]; exact ⟨h3, h1⟩) h2
         exact ⟨ad1, e, cell_on hq HZ.out⟩))
        have HBR2 := Hd (fun i (hi : i < fn) => (show ∃ ad2, A2 = some ad2 ∧ z9.cell? (ad2.add i) = some (.bool (fb i)) from by
         obtain ⟨ad2, e, h1, h2⟩ := HA2.out.at_ hi
         rw [blist_at hi] at h2
         exact ⟨ad2, e, h2⟩))
        have hN24 : fn ≤ 24 := HFE9.out.2.2.1
        clear r1 r2 r3
        go_loopw [10] (fun i wr => ∃ k : Nat, k ≤ fn ∧ i = .int .i64 (k : Int) ∧ z9 = wr) (fun i _ => fn - (intOf i).toNat)
        case atStart => exact ⟨0, Nat.zero_le _, rfl, rfl⟩
        case round =>
         obtain ⟨k, hk, rfl, rfl⟩ := hrel
         by_cases hlt : k < fn
         ·have hI : (k : Int) < (fn : Int) := by omega
          have hk0 : (0 : Int) ≤ (k : Int) := by omega
          obtain ⟨ad1, rfl, y1⟩ := HAR.out k hlt
          obtain ⟨ad2, rfl, y2⟩ := HBR2.out k hlt
          have h1 := HLS.out k
          obtain ⟨ak, hak⟩ : ∃ x, fa k = x := ⟨_, rfl⟩
          obtain ⟨bk, hbk⟩ : ∃ x, fb k = x := ⟨_, rfl⟩
          rw [hak] at y1 h1
          rw [hbk] at y2 h1
          clear hak hbk
          cases bk
          rotate_left
          focus
           obtain rfl : ak = true := h1 rfl
          rotate_left
          all_goals
           clear h1
           go_wp2_with fail
           go_roundw
           case rel => exact ⟨k + 1, by omega, by go_num, by first | rfl | trivial⟩
           case measure => simp [intOf]; omega
         ·obtain rfl : k = fn := by omega
          go_wp2_with (go_at_call 10; refine (known26_any _).mono ?_; rintro e w7 ⟨rfl, hb7⟩; have HB7 := Hd hb7; clear hb7)
          refine bodyPost_ret (results_tmp rfl _ _ _) rfl ?_
          exact ⟨rfl, to_ (to_ HALL.out HZ.out) HB7.out⟩
  ·have hrb : (r1 != 0) = true := by simp [hr]
   refine wp_region_held_drew (S := fun W => W.cell? ⟨w3.heap.size + 1, 0, none⟩ = some (.int .i64 r1) ∧ W.cell? ⟨w3.heap.size, 0, none⟩ = some (.slice fA fn fc) ∧ W.cell? ⟨w3.heap.size, 1, none⟩ = some (.slice dA dn dc) ∧ W.cell? ⟨w3.heap.size, 2, none⟩ = some (.int .i64 en) ∧ W.cell? ⟨w.heap.size, 0, none⟩ = some (.int .i64 x) ∧ W.cell? ⟨w.heap.size, 1, none⟩ = some (.int .i64 y)) (by kernel_rfl) (⟨q0, p0, p1, p2, a0, a1⟩) (fun hHeld => ?_)
   refine tk4Z 0 1 2 3 hHeld ?_
   refine tf3Z 4 5 6 hHeld ?_
   refine tk2Z 7 8 hHeld ?_
   refine tf3Z 9 10 11 hHeld ?_
   refine tk2Z 12 13 hHeld ?_
   refine tf6Z 14 15 16 17 18 19 hHeld ?_
   refine tk2Z 20 21 hHeld ?_
   refine tf3Z 22 23 24 hHeld ?_
   refine tk2Z 25 26 hHeld ?_
   refine tf8Z 27 28 29 30 31 32 33 34 hHeld ?_
   refine tf3Z 35 36 37 hHeld ?_
   refine tk1Z 38 hHeld ?_
   refine wpAnyH_done (by kernel_rfl) ?_ _
   refine NoPanic.normal ?_
   go_wp2_with (go_at_call 10; refine (known26_any _).mono ?_; rintro e w7 ⟨rfl, hb7⟩; have HB7 := Hd hb7; clear hb7)
   refine bodyPost_ret (results_tmp rfl _ _ _) rfl ?_
   exact ⟨rfl, to_ HBW4.out (to_ (Below.refl _ W4).drew HB7.out)⟩
end Go.Proofs.YtdaimeaofgbfpaaGreat.Bo
