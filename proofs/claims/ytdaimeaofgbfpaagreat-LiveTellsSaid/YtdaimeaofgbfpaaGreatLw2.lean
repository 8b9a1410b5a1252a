/-
 Lw2
-/
import Derived.Test.YtdaimeaofgbfpaaGreatZa2
import Derived.Test.YtdaimeaofgbfpaaGreatTr2
import Derived.Test.YtdaimeaofgbfpaaGreatLv2
set_option linter.unusedSimpArgs false
set_option linter.unusedVariables false
namespace Go.Proofs.YtdaimeaofgbfpaaGreat.Bo
open Go.RowKit Go.Maps
open Mem Rf
theorem FnI.on {w w' : World} {F : Fc} {x : By.Fn} (h : FnI w F x) (hb : Below w.heap.size w w') : FnI w' F x := ⟨h.fw.on hb, h.hk, h.hpd, h.hns, h.hf, h.ht, h.bd, h.wf⟩
theorem DtI.on {w w' : World} {D : Dc} {ws : List Int} {rs : List By.Rl} (h : DtI w D ws rs) (hb : Below w.heap.size w w') : DtI w' D ws rs := ⟨h.hw.on hb, h.hl, h.hr.on hb, h.bd⟩
theorem ObI.on {w w' : World} {o : Oj} {xs : Nat → By.Fn} {ws : Nat → List Int} {rs : Nat → List By.Rl} (h : ObI w o xs ws rs) (hb : Below w.heap.size w w') : ObI w' o xs ws rs := ⟨h.mem.on hb, h.kinds, fun k hk => (h.fns k hk).on hb, fun k hk => (h.dats k hk).on hb⟩
theorem OjsI.on {w w' : World} {A : Option Addr} {n c : Nat} {os : List Oj} {xs : Nat → Nat → By.Fn} {ws : Nat → Nat → List Int} {rs : Nat → Nat → List By.Rl} (h : OjsI w A n c os xs ws rs) (hb : Below w.heap.size w w') : OjsI w' A n c os xs ws rs := ⟨h.mem.on hb, fun i hi => (h.each i hi).on hb⟩
theorem blk2 {W : World} {t u : TypeId} {a c : Array Value} : Blk ((W.alloc (.cells a t)).alloc (.cells c u)) W.heap.size t a ∧ Blk ((W.alloc (.cells a t)).alloc (.cells c u)) (W.heap.size + 1) u c := by
 refine ⟨(Blk.new _ _ _).alloc _, ?_⟩
 have := Blk.new (W.alloc (.cells a t)) u c
 rwa [World.size_alloc] at this
theorem rowf_few {n m : Nat} {f : Nat → List Int} (h : ∀ a, (f a).length ≤ m) (i : Nat) : (By.rowOf ((List.range n).map f) i).length ≤ m := by
 unfold By.rowOf
 rw [List.getD_eq_getElem?_getD, List.getElem?_map]
 cases e : (List.range n)[i]? with
 | none => simp
 | some a => simpa using h a
theorem list_len {n : Nat} {f : Nat → List Int} : ((List.range n).map f).length = n := by rw [List.length_map, List.length_range]
def LsA (n : Nat) (L : List (List Int)) : Prop := L.length = n ∧ ∀ i, (By.rowOf L i).length ≤ 100000
theorem ls_of {n m : Nat} {f : Nat → List Int} (h : ∀ a, (f a).length ≤ m) (hm : m ≤ 100000) : LsA n ((List.range n).map f) := ⟨list_len, fun i => Nat.le_trans (rowf_few h i) hm⟩
theorem rows_gr {w : World} {n : Nat} {L : List (List Int)} {e : Ending} {w' : World} (h : RowsA w n L e w') (hL : LsA n L) (hn : n ≤ 24) : ∃ A c, e = .returned (.slice A n c) ∧ By.Gr w' w'.heap.size (.slice A n c) L ∧ Below w.heap.size w w' := by
 obtain ⟨rb, base, e1, ho, _, _, hb⟩ := h
 exact ⟨_, _, e1, gr_of ho hL.1 hn, hb⟩
theorem own_gr {w : World} {n : Nat} {L : List (List Int)} {e : Ending} {w' : World} (h : GOwn w L e w') (hL : LsA n L) : ∃ A c, e = .returned (.slice A n c) ∧ By.Gr w' w'.heap.size (.slice A n c) L ∧ Below w.heap.size w w' := by
 obtain ⟨ov, e1, ho, hb⟩ := h
 obtain ⟨A, c, e2, hg⟩ := ho.gr
 rw [hL.1] at e2 hg
 subst e2
 exact ⟨A, c, e1, hg.more (Nat.le_refl _), hb⟩
set_option maxRecDepth 100000 in
set_option maxHeartbeats 8000000 in
theorem tell26_any (w : World) (A : Option Addr) (n c : Nat) (os : List Oj) (xs : Nat → Nat → By.Fn) (ws : Nat → Nat → List Int) (rs : Nat → Nat → List By.Rl) (h : OjsI w A n c os xs ws rs) (x y z : Int) (is : Bool) :
  Calls Tryz.prog 3 #[.slice A n c, .agg #[.int .i64 x, .int .i64 y], .int .i64 z, .bool is] w fun e w' => e = .returned (.bool true) ∧ Below w.heap.size w w' := by
 have HFEW := Hd (fun W (hb : Below w.heap.size w W) => few_in (h.on hb))
 clear h
 obtain ⟨W0, hW0⟩ : ∃ W0, w.alloc (.cells #[.int .i64 x, .int .i64 y] 23) = W0 := ⟨_, rfl⟩
 have HB0 := Hd (show Below w.heap.size w W0 from by rw [← hW0]; exact alloc_ _ _)
 have HAB := Hd (show Blk W0 w.heap.size 23 #[.int .i64 x, .int .i64 y] from by rw [← hW0]; exact Blk.new _ _ _)
 go_enter Tryz.func3, Tryz.ntmps3
 go_wp2_with (go_at_call 9; refine (HFEW.out W0 HB0.out).mono ?_; rintro e w2 ⟨⟨b, rfl, hj⟩, hb2⟩; have HJ := Hd hj; have HB2 := Hd hb2; clear hb2 hj hW0; cases b)
 ·go_wp2_with (go_at_call 10; refine (known26_any _).mono ?_; rintro e w7 ⟨rfl, hb7⟩; have HB7 := Hd hb7; clear hb7)
  go_ret
  exact ⟨rfl, to_ HB0.out (to_ HB2.out HB7.out)⟩
 ·have HJ2 := Hd (HJ.out (by trivial))
  clear HJ
  go_wp2_with (go_at_call 11; refine (bind_in (HJ2.out.on HB2.out) _).mono ?_; rintro e w3 ⟨P, r1, r2, r3, rfl, hpl, hb3, -⟩; have HPL := Hd hpl; have HB3 := Hd hb3; clear hpl hb3; obtain ⟨fA, fn, fc, fs, dA, dn, dc, ds, en, cs⟩ := P; unfold pgV; dsimp only; obtain ⟨W4, hW4⟩ : ∃ x, (w3.alloc (.cells #[.slice fA fn fc, .slice dA dn dc, .int .i64 en] 29)).alloc (.cells #[.int .i64 r1, .int .i64 r2, .int .i64 r3] 32) = x := ⟨_, rfl⟩; have HW4 := Hd (show Below w3.heap.size w3 W4 from by rw [← hW4]; exact to_ (alloc_ _ _) (alloc_ _ _)); have HPX := Hd (show Blk W4 w3.heap.size 29 #[.slice fA fn fc, .slice dA dn dc, .int .i64 en] from by rw [← hW4]; exact blk2.1); have HWW := Hd hW4; clear hW4; have a0 : W4.cell? ⟨w.heap.size, 0, none⟩ = some (.int .i64 x) := (HAB.out.below (to_ HB2.out (to_ HB3.out HW4.out)) HAB.out.lt).cell 0; have a1 : W4.cell? ⟨w.heap.size, 1, none⟩ = some (.int .i64 y) := (HAB.out.below (to_ HB2.out (to_ HB3.out HW4.out)) HAB.out.lt).cell 1; obtain ⟨p0, p1, p2⟩ := q3Z HPX.out; have hW4 := HWW.out; go_wp2_with (go_at_call 12; refine (spoil_any W4 _ ⟨fA, fn, fc, fs, dA, dn, dc, ds, en, cs⟩ (HPL.out.on HW4.out) x y z is (wd_few HPL.out.fr) (wd_few HPL.out.dr)).mono ?_; clear hW4 p0 p1 p2 a0 a1; rintro e w5 ⟨P2, rfl, hpl2, hb5, -, hkp, hsz⟩; have HPL2 := Hd hpl2; have HB5 := Hd hb5; have HPX5 := Hd (hkp _ _ _ HPX.out (by decide)); have HS5 := Hd hsz; clear hpl2 hb5 hkp hsz; obtain ⟨gA, gn, gc, gs, eA, en', ec, es, ee, cs2⟩ := P2; unfold pgV; dsimp only; obtain ⟨p0, p1, p2⟩ := q3Z HPX5.out; have q0 := HPX5.out.frozen 0; have q1 := HPX5.out.frozen 1; have q2 := HPX5.out.frozen 2; obtain ⟨W6, hW6⟩ : ∃ x, ((w5.setCell ⟨w3.heap.size, 0, none⟩ (.slice gA gn gc)).setCell ⟨w3.heap.size, 1, none⟩ (.slice eA en' ec)).setCell ⟨w3.heap.size, 2, none⟩ (.int .i64 ee) = x := ⟨_, rfl⟩; have HBS := Hd (show W0.heap.size ≤ w3.heap.size ∧ w2.heap.size ≤ w3.heap.size from ⟨Nat.le_trans HB2.out.size HB3.out.size, HB3.out.size⟩); have HPL6 := Hd (show PgL W6 w2.heap.size ⟨gA, gn, gc, gs, eA, en', ec, es, ee, cs2⟩ from by rw [← hW6]; exact ((HPL2.out.cell2 HPX5.out HBS.out.2 0 _).cell2 (HPX5.out.stored 0 _) HBS.out.2 1 _).cell2 ((HPX5.out.stored 0 _).stored 1 _) HBS.out.2 2 _); have HPX6 := Hd (show Blk W6 w3.heap.size 29 #[.slice gA gn gc, .slice eA en' ec, .int .i64 ee] from by rw [← hW6]; exact ((HPX5.out.stored 0 (.slice gA gn gc)).stored 1 (.slice eA en' ec)).stored 2 (.int .i64 ee)); have s0 : W6.cell? ⟨w3.heap.size, 0, none⟩ = some (.slice gA gn gc) := HPX6.out.cell 0; have s1 : W6.cell? ⟨w3.heap.size, 1, none⟩ = some (.slice eA en' ec) := HPX6.out.cell 1; have s2 : W6.cell? ⟨w3.heap.size, 2, none⟩ = some (.int .i64 ee) := HPX6.out.cell 2; have HBW6 := Hd (show Below w.heap.size w W6 from by rw [← hW6]; have hz := HB0.out.size; have hz2 := HB2.out.size; have hz3 := HBS.out.2; exact far_below (far_below (far_below ((to_ HB0.out (to_ HB2.out (to_ HB3.out HW4.out))).trans (HB5.out.mono (by omega))) (by omega)) (by omega)) (by omega)); go_wp2_with (go_at_call 13; refine (few25_any W6 ⟨gA, gn, gc, gs, eA, en', ec, es, ee, cs2⟩ HPL6.out.fr HPL6.out.dr).mono ?_; clear p0 p1 p2 q0 q1 q2 s0 s1 s2 hW6; rintro e w4 ⟨b2, rfl, hb4, hfe⟩; have HB4 := Hd hb4; have HFE := Hd hfe; clear hb4 hfe; cases b2)))
  ·go_wp2_with (go_at_call 10; refine (known26_any _).mono ?_; rintro e w7 ⟨rfl, hb7⟩; have HB7 := Hd hb7; clear hb7)
   go_ret
   exact ⟨rfl, to_ HBW6.out (to_ HB4.out HB7.out)⟩
  ·have HFE9 := Hd (HFE.out (by trivial))
   clear HFE
   have HRP := Hd (fun W (hb : Below w4.heap.size w4 W) => (HPL6.out.rd HFE9.out).on (to_ HB4.out hb))
   have HBW := Hd (show Below w.heap.size w w4 from to_ HBW6.out HB4.out)
   have hgn : gn ≤ 24 := HFE9.out.2.2.1
   have hen : en' ≤ 24 := HFE9.out.2.2.2
   have HL3 := Hd (show LsA gn (graphG ⟨gA, gn, gc, gs, eA, en', ec, es, ee, cs2⟩) from ls_of (n := gn) (f := edgL ⟨gA, gn, gc, gs, eA, en', ec, es, ee, cs2⟩) (fun a => edgL_len _ a) (show gn ≤ 100000 by omega))
   have HN24 := Hd hgn
   clear hgn hen
   have HP0 := Hd (fun W (hb : Below w4.heap.size w4 W) => live_any W ⟨gA, gn, gc, gs, eA, en', ec, es, ee, cs2⟩ (HRP.out W hb))
   have HD0 := Hd (fun W (hb : Below w4.heap.size w4 W) => rlive_any W ⟨gA, gn, gc, gs, eA, en', ec, es, ee, cs2⟩ (HRP.out W hb))
   unfold pgV at HP0 HD0
   dsimp only at HP0 HD0
   obtain ⟨L0, hL0⟩ : ∃ L, liveB ⟨gA, gn, gc, gs, eA, en', ec, es, ee, cs2⟩ = L := ⟨_, rfl⟩
   rw [hL0] at HP0 HD0
   clear hL0
   have HP1 := Hd (fun W (hb : Below w4.heap.size w4 W) => taken_any W ⟨gA, gn, gc, gs, eA, en', ec, es, ee, cs2⟩ (HRP.out W hb))
   have HD1 := Hd (fun W (hb : Below w4.heap.size w4 W) => rtaken_any W ⟨gA, gn, gc, gs, eA, en', ec, es, ee, cs2⟩ (HRP.out W hb))
   unfold pgV at HP1 HD1
   dsimp only at HP1 HD1
   obtain ⟨L1, hL1⟩ : ∃ L, takenB ⟨gA, gn, gc, gs, eA, en', ec, es, ee, cs2⟩ = L := ⟨_, rfl⟩
   rw [hL1] at HP1 HD1
   clear hL1
   have HP2 := Hd (fun W (hb : Below w4.heap.size w4 W) => called_any W ⟨gA, gn, gc, gs, eA, en', ec, es, ee, cs2⟩ (HRP.out W hb))
   have HD2 := Hd (fun W (hb : Below w4.heap.size w4 W) => rcalled_any W ⟨gA, gn, gc, gs, eA, en', ec, es, ee, cs2⟩ (HRP.out W hb))
   unfold pgV at HP2 HD2
   dsimp only at HP2 HD2
   obtain ⟨L2, hL2⟩ : ∃ L, calledB ⟨gA, gn, gc, gs, eA, en', ec, es, ee, cs2⟩ = L := ⟨_, rfl⟩
   rw [hL2] at HP2 HD2
   clear hL2
   have HP3 := Hd (fun W (hb : Below w4.heap.size w4 W) => graph_any W ⟨gA, gn, gc, gs, eA, en', ec, es, ee, cs2⟩ (HRP.out W hb))
   have HD3 := Hd (fun W (hb : Below w4.heap.size w4 W) => rgraph_any W ⟨gA, gn, gc, gs, eA, en', ec, es, ee, cs2⟩ (HRP.out W hb))
   unfold pgV at HP3 HD3
   dsimp only at HP3 HD3
   obtain ⟨L3, hL3⟩ : ∃ L, graphG ⟨gA, gn, gc, gs, eA, en', ec, es, ee, cs2⟩ = L := ⟨_, rfl⟩
   rw [hL3] at HP3 HD3 HL3
   clear hL3
   have p0 : w4.cell? ⟨w3.heap.size, 0, none⟩ = some (.slice gA gn gc) := (HPX6.out.below HB4.out HPX6.out.lt).cell 0
   have p1 : w4.cell? ⟨w3.heap.size, 1, none⟩ = some (.slice eA en' ec) := (HPX6.out.below HB4.out HPX6.out.lt).cell 1
   have p2 : w4.cell? ⟨w3.heap.size, 2, none⟩ = some (.int .i64 ee) := (HPX6.out.below HB4.out HPX6.out.lt).cell 2
   refine wp_region_noPanic ?_
   refine wp_region_held_drew (S := fun W => W.cell? ⟨w3.heap.size, 0, none⟩ = some (.slice gA gn gc) ∧ W.cell? ⟨w3.heap.size, 1, none⟩ = some (.slice eA en' ec) ∧ W.cell? ⟨w3.heap.size, 2, none⟩ = some (.int .i64 ee)) (by kernel_rfl) (⟨p0, p1, p2⟩) (fun hHeld => ?_)
   refine tk2Z 0 2 hHeld ?_
   refine rd1Z 1 (fun K hK => ?_)
   go_simp
   refine (HP0.out _ ((Below.refl _ _).drew)).mono ?_; rintro e u0 ⟨A0, c0, rfl, hg, hb, _⟩; have HB20 := Hd (to_ ((Below.refl _ _).drew) hb); have HG0 := Hd hg; have HU := Hd hb; clear hg hb
   try go_wp2_with fail
   refine hK.out _ _ ((on3Z hHeld HU.out)) ?_
   clear hK K hHeld
   intro hHeld
   try simp only [Act.put, nmZ]
   refine rd1Z 3 (fun K hK => ?_)
   go_simp
   refine (HD0.out _ (HB20.out)).mono ?_; rintro e u1 ⟨D0, d0, rfl, hg, hb⟩; have HB21 := Hd (to_ (HB20.out) hb); have HE0 := Hd hg; have HU := Hd hb; clear hg hb
   try go_wp2_with fail
   refine hK.out _ _ ((on3Z hHeld HU.out)) ?_
   clear hK K hHeld
   intro hHeld
   try simp only [Act.put, nmZ]
   refine rd1Z 4 (fun K hK => ?_)
   go_simp
   refine (bools26_any _ A0 D0 gn c0 d0 _ (HG0.out.on HU.out) HE0.out (by have := HN24.out; omega)).mono ?_; rintro e u2 ⟨rfl, hb⟩; have HB22 := Hd (to_ (HB21.out) hb); have HU := Hd hb; clear hb
   try go_wp2_with fail
   refine hK.out _ _ ((on3Z hHeld HU.out)) ?_
   clear hK K hHeld
   intro hHeld
   try simp only [Act.put, nmZ]
   refine tk3Z 5 6 8 hHeld ?_
   refine rd1Z 7 (fun K hK => ?_)
   go_simp
   refine (HP1.out _ (HB22.out)).mono ?_; rintro e u3 ⟨A1, c1, rfl, hg, hb, _⟩; have HB23 := Hd (to_ (HB22.out) hb); have HG1 := Hd hg; have HU := Hd hb; clear hg hb
   try go_wp2_with fail
   refine hK.out _ _ ((on3Z hHeld HU.out)) ?_
   clear hK K hHeld
   intro hHeld
   try simp only [Act.put, nmZ]
   refine rd1Z 9 (fun K hK => ?_)
   go_simp
   refine (HD1.out _ (HB23.out)).mono ?_; rintro e u4 ⟨D1, d1, rfl, hg, hb⟩; have HB24 := Hd (to_ (HB23.out) hb); have HE1 := Hd hg; have HU := Hd hb; clear hg hb
   try go_wp2_with fail
   refine hK.out _ _ ((on3Z hHeld HU.out)) ?_
   clear hK K hHeld
   intro hHeld
   try simp only [Act.put, nmZ]
   refine rd1Z 10 (fun K hK => ?_)
   go_simp
   refine (bools26_any _ A1 D1 gn c1 d1 _ (HG1.out.on HU.out) HE1.out (by have := HN24.out; omega)).mono ?_; rintro e u5 ⟨rfl, hb⟩; have HB25 := Hd (to_ (HB24.out) hb); have HU := Hd hb; clear hb
   try go_wp2_with fail
   refine hK.out _ _ ((on3Z hHeld HU.out)) ?_
   clear hK K hHeld
   intro hHeld
   try simp only [Act.put, nmZ]
   refine tk4Z 11 12 13 15 hHeld ?_
   refine rd1Z 14 (fun K hK => ?_)
   go_simp
   refine (HP2.out _ (HB25.out)).mono ?_; rintro e u6 ⟨A2, c2, rfl, hg, hb, _⟩; have HB26 := Hd (to_ (HB25.out) hb); have HG2 := Hd hg; have HU := Hd hb; clear hg hb
   try go_wp2_with fail
   refine hK.out _ _ ((on3Z hHeld HU.out)) ?_
   clear hK K hHeld
   intro hHeld
   try simp only [Act.put, nmZ]
   refine rd1Z 16 (fun K hK => ?_)
   go_simp
   refine (HD2.out _ (HB26.out)).mono ?_; rintro e u7 ⟨D2, d2, rfl, hg, hb⟩; have HB27 := Hd (to_ (HB26.out) hb); have HE2 := Hd hg; have HU := Hd hb; clear hg hb
   try go_wp2_with fail
   refine hK.out _ _ ((on3Z hHeld HU.out)) ?_
   clear hK K hHeld
   intro hHeld
   try simp only [Act.put, nmZ]
   refine rd1Z 17 (fun K hK => ?_)
   go_simp
   refine (bools26_any _ A2 D2 gn c2 d2 _ (HG2.out.on HU.out) HE2.out (by have := HN24.out; omega)).mono ?_; rintro e u8 ⟨rfl, hb⟩; have HB28 := Hd (to_ (HB27.out) hb); have HU := Hd hb; clear hb
   try go_wp2_with fail
   refine hK.out _ _ ((on3Z hHeld HU.out)) ?_
   clear hK K hHeld
   intro hHeld
   try simp only [Act.put, nmZ]
   refine tk4Z 18 19 20 22 hHeld ?_
   refine rd1Z 21 (fun K hK => ?_)
   go_simp
   refine (HP3.out _ (HB28.out)).mono ?_; intro e u9 hh; obtain ⟨A3, c3, rfl, hg, hb⟩ := rows_gr hh HL3.out HN24.out; have HB29 := Hd (to_ (HB28.out) hb); have HG3 := Hd hg; have HU := Hd hb; clear hh hg hb
   try go_wp2_with fail
   refine hK.out _ _ ((on3Z hHeld HU.out)) ?_
   clear hK K hHeld
   intro hHeld
   try simp only [Act.put, nmZ]
   refine rd1Z 23 (fun K hK => ?_)
   go_simp
   refine (HD3.out _ (HB29.out)).mono ?_; intro e u10 hh; obtain ⟨D3, d3, rfl, hg, hb⟩ := own_gr hh HL3.out; have HB210 := Hd (to_ (HB29.out) hb); have HE3 := Hd hg; have HU := Hd hb; clear hh hg hb
   try go_wp2_with fail
   refine hK.out _ _ ((on3Z hHeld HU.out)) ?_
   clear hK K hHeld
   intro hHeld
   try simp only [Act.put, nmZ]
   refine rd1Z 24 (fun K hK => ?_)
   go_simp
   refine (same10_any _ A3 D3 gn c3 d3 L3 HL3.out.1 (by have := HN24.out; omega) HL3.out.2 (gr_on HG3.out HU.out) HE3.out).mono ?_; rintro e u11 ⟨rfl, hb⟩; have HB211 := Hd (to_ (HB210.out) hb); have HU := Hd hb; clear hb
   try go_wp2_with fail
   refine hK.out _ _ ((on3Z hHeld HU.out)) ?_
   clear hK K hHeld
   intro hHeld
   try simp only [Act.put, nmZ]
   refine tk2Z 25 26 hHeld ?_
   refine rd1Z 27 (fun K hK => ?_)
   go_simp
   refine (known26_any _).mono ?_; rintro e u12 ⟨rfl, hb⟩; have HB212 := Hd (to_ (HB211.out) hb); have HU := Hd hb; clear hb
   try go_wp2_with fail
   refine hK.out _ _ ((on3Z hHeld HU.out)) ?_
   clear hK K hHeld
   intro hHeld
   try simp only [Act.put, nmZ]
   refine tk2Z 28 29 hHeld ?_
   refine wpAnyH_done (by kernel_rfl) ?_ _
   refine NoPanic.normal ?_
   go_wp2_with fail
   go_ret
   exact ⟨rfl, to_ HBW.out HB212.out⟩
end Go.Proofs.YtdaimeaofgbfpaaGreat.Bo
