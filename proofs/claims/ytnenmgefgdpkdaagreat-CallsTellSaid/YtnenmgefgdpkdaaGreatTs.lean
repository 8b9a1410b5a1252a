import Derived.Test.YtnenmgefgdpkdaaGreatZa
import Derived.Test.YtnenmgefgdpkdaaGreatTr
import Derived.Test.YtnenmgefgdpkdaaGreatRd
namespace Go.Proofs.YtnenmgefgdpkdaaGreat.Bo
open Go.RowKit Go.Maps
open Mem Rf
set_option linter.unusedSimpArgs false
set_option linter.unusedVariables false
theorem FnI.on {w w' : World} {F : Fc} {x : By.Fn} (h : FnI w F x) (hb : Below w.heap.size w w') : FnI w' F x := ⟨h.fw.on hb, h.hk, h.hpd, h.hns, h.hf, h.ht, h.bd, h.wf⟩
theorem DtI.on {w w' : World} {D : Dc} {ws : List Int} {rs : List By.Rl} (h : DtI w D ws rs) (hb : Below w.heap.size w w') : DtI w' D ws rs := ⟨h.hw.on hb, h.hl, h.hr.on hb, h.bd⟩
theorem ObI.on {w w' : World} {o : Oj} {xs : Nat → By.Fn} {ws : Nat → List Int} {rs : Nat → List By.Rl} (h : ObI w o xs ws rs) (hb : Below w.heap.size w w') : ObI w' o xs ws rs := ⟨h.mem.on hb, h.kinds, fun k hk => (h.fns k hk).on hb, fun k hk => (h.dats k hk).on hb⟩
theorem OjsI.on {w w' : World} {A : Option Addr} {n c : Nat} {os : List Oj} {xs : Nat → Nat → By.Fn} {ws : Nat → Nat → List Int} {rs : Nat → Nat → List By.Rl} (h : OjsI w A n c os xs ws rs) (hb : Below w.heap.size w w') : OjsI w' A n c os xs ws rs := ⟨h.mem.on hb, fun i hi => (h.each i hi).on hb⟩
theorem blk2 {W : World} {t u : TypeId} {a c : Array Value} : Blk ((W.alloc (.cells a t)).alloc (.cells c u)) W.heap.size t a ∧ Blk ((W.alloc (.cells a t)).alloc (.cells c u)) (W.heap.size + 1) u c := by
 refine ⟨(Blk.new _ _ _).alloc _, ?_⟩
 have := Blk.new (W.alloc (.cells a t)) u c
 rwa [World.size_alloc] at this
theorem rowf_few {n m : Nat} {f : Nat → List Int} (h : ∀ a, (f a).length ≤ m) (i : Nat) : (By.rowOf ((List.range n).map f) i).length ≤ m := by
 unfold By.rowOf
 rw [List.getD_eq_getElem?_getD, List.getElem?_map]
 cases e : (List.range n)[i]? with
 | none => simp
 | some a => simpa using h a
theorem list_len {n : Nat} {f : Nat → List Int} : ((List.range n).map f).length = n := by rw [List.length_map, List.length_range]
def LsA (n : Nat) (L : List (List Int)) : Prop := L.length = n ∧ ∀ i, (By.rowOf L i).length ≤ 100000
theorem ls_of {n m : Nat} {f : Nat → List Int} (h : ∀ a, (f a).length ≤ m) (hm : m ≤ 100000) : LsA n ((List.range n).map f) := ⟨list_len, fun i => Nat.le_trans (rowf_few h i) hm⟩
theorem rows_gr {w : World} {n : Nat} {L : List (List Int)} {e : Ending} {w' : World} (h : RowsA w n L e w') (hL : LsA n L) (hn : n ≤ 24) : ∃ A c, e = .returned (.slice A n c) ∧ By.Gr w' w'.heap.size (.slice A n c) L ∧ Below w.heap.size w w' := by
 obtain ⟨rb, base, e1, ho, _, _, hb⟩ := h
 exact ⟨_, _, e1, gr_of ho hL.1 hn, hb⟩
theorem own_gr {w : World} {n : Nat} {L : List (List Int)} {e : Ending} {w' : World} (h : GOwn w L e w') (hL : LsA n L) : ∃ A c, e = .returned (.slice A n c) ∧ By.Gr w' w'.heap.size (.slice A n c) L ∧ Below w.heap.size w w' := by
 obtain ⟨ov, e1, ho, hb⟩ := h
 obtain ⟨A, c, e2, hg⟩ := ho.gr
 rw [hL.1] at e2 hg
 subst e2
 exact ⟨A, c, e1, hg.more (Nat.le_refl _), hb⟩
set_option maxRecDepth 100000 in
set_option maxHeartbeats 8000000 in
theorem tell25_any (w : World) (A : Option Addr) (n c : Nat) (os : List Oj) (xs : Nat → Nat → By.Fn) (ws : Nat → Nat → List Int) (rs : Nat → Nat → List By.Rl) (h : OjsI w A n c os xs ws rs) (x y z : Int) (is : Bool) :
  Calls Tryz.prog 3 #[.slice A n c, .agg #[.int .i64 x, .int .i64 y], .int .i64 z, .bool is] w fun e w' => e = .returned (.bool true) ∧ Below w.heap.size w w' := by
 have HFEW := Lib.hid (fun W (hb : Below w.heap.size w W) => few_in (h.on hb))
 clear h
 obtain ⟨W0, hW0⟩ : ∃ W0, w.alloc (.cells #[.int .i64 x, .int .i64 y] 23) = W0 := ⟨_, rfl⟩
 have HB0 := Lib.hid (show Below w.heap.size w W0 from by rw [← hW0]; exact alloc_ _ _)
 have HAB := Lib.hid (show Blk W0 w.heap.size 23 #[.int .i64 x, .int .i64 y] from by rw [← hW0]; exact Blk.new _ _ _)
 go_enter Tryz.func3, Tryz.ntmps3
 go_wp2_with (go_at_call 11; refine (HFEW.out W0 HB0.out).mono ?_; rintro e w2 ⟨⟨b, rfl, hj⟩, hb2⟩; have HJ := Lib.hid hj; have HB2 := Lib.hid hb2; clear hb2 hj hW0; cases b)
 ·go_wp2_with (go_at_call 12; refine (known25_any _).mono ?_; rintro e w7 ⟨rfl, hb7⟩; have HB7 := Lib.hid hb7; clear hb7)
  go_ret
  exact ⟨rfl, to_ HB0.out (to_ HB2.out HB7.out)⟩
 ·have HJ2 := Lib.hid (HJ.out (by trivial))
  clear HJ
  go_wp2_with (go_at_call 13; refine (bind_in (HJ2.out.on HB2.out) _).mono ?_; rintro e w3 ⟨P, r1, r2, r3, rfl, hpl, hb3, -⟩; have HPL := Lib.hid hpl; have HB3 := Lib.hid hb3; clear hpl hb3; obtain ⟨fA, fn, fc, fs, dA, dn, dc, ds, en, cs⟩ := P; unfold pgV; dsimp only; obtain ⟨W4, hW4⟩ : ∃ x, (w3.alloc (.cells #[.slice fA fn fc, .slice dA dn dc, .int .i64 en] 29)).alloc (.cells #[.int .i64 r1, .int .i64 r2, .int .i64 r3] 32) = x := ⟨_, rfl⟩; have HW4 := Lib.hid (show Below w3.heap.size w3 W4 from by rw [← hW4]; exact to_ (alloc_ _ _) (alloc_ _ _)); have HPX := Lib.hid (show Blk W4 w3.heap.size 29 #[.slice fA fn fc, .slice dA dn dc, .int .i64 en] from by rw [← hW4]; exact blk2.1); have HWW := Lib.hid hW4; clear hW4; have a0 : W4.cell? ⟨w.heap.size, 0, none⟩ = some (.int .i64 x) := (HAB.out.below (to_ HB2.out (to_ HB3.out HW4.out)) HAB.out.lt).cell 0; have a1 : W4.cell? ⟨w.heap.size, 1, none⟩ = some (.int .i64 y) := (HAB.out.below (to_ HB2.out (to_ HB3.out HW4.out)) HAB.out.lt).cell 1; have p0 : W4.cell? ⟨w3.heap.size, 0, none⟩ = some (.slice fA fn fc) := HPX.out.cell 0; have p1 : W4.cell? ⟨w3.heap.size, 1, none⟩ = some (.slice dA dn dc) := HPX.out.cell 1; have p2 : W4.cell? ⟨w3.heap.size, 2, none⟩ = some (.int .i64 en) := HPX.out.cell 2; have hW4 := HWW.out; go_wp2_with (go_at_call 14; refine (spoil_any W4 _ ⟨fA, fn, fc, fs, dA, dn, dc, ds, en, cs⟩ (HPL.out.on HW4.out) x y z is (wd_few HPL.out.fr) (wd_few HPL.out.dr)).mono ?_; clear hW4 p0 p1 p2 a0 a1; rintro e w5 ⟨P2, rfl, hpl2, hb5, -, hkp, hsz⟩; have HPL2 := Lib.hid hpl2; have HB5 := Lib.hid hb5; have HPX5 := Lib.hid (hkp _ _ _ HPX.out (by decide)); have HS5 := Lib.hid hsz; clear hpl2 hb5 hkp hsz; obtain ⟨gA, gn, gc, gs, eA, en', ec, es, ee, cs2⟩ := P2; unfold pgV; dsimp only; have p0 : w5.cell? ⟨w3.heap.size, 0, none⟩ = some (.slice fA fn fc) := HPX5.out.cell 0; have p1 : w5.cell? ⟨w3.heap.size, 1, none⟩ = some (.slice dA dn dc) := HPX5.out.cell 1; have p2 : w5.cell? ⟨w3.heap.size, 2, none⟩ = some (.int .i64 en) := HPX5.out.cell 2; have q0 := HPX5.out.frozen 0; have q1 := HPX5.out.frozen 1; have q2 := HPX5.out.frozen 2; obtain ⟨W6, hW6⟩ : ∃ x, ((w5.setCell ⟨w3.heap.size, 0, none⟩ (.slice gA gn gc)).setCell ⟨w3.heap.size, 1, none⟩ (.slice eA en' ec)).setCell ⟨w3.heap.size, 2, none⟩ (.int .i64 ee) = x := ⟨_, rfl⟩; have HBS := Lib.hid (show W0.heap.size ≤ w3.heap.size ∧ w2.heap.size ≤ w3.heap.size from ⟨Nat.le_trans HB2.out.size HB3.out.size, HB3.out.size⟩); have HPL6 := Lib.hid (show PgL W6 w2.heap.size ⟨gA, gn, gc, gs, eA, en', ec, es, ee, cs2⟩ from by rw [← hW6]; exact ((HPL2.out.cell2 HPX5.out HBS.out.2 0 _).cell2 (HPX5.out.stored 0 _) HBS.out.2 1 _).cell2 ((HPX5.out.stored 0 _).stored 1 _) HBS.out.2 2 _); have HPX6 := Lib.hid (show Blk W6 w3.heap.size 29 #[.slice gA gn gc, .slice eA en' ec, .int .i64 ee] from by rw [← hW6]; exact ((HPX5.out.stored 0 (.slice gA gn gc)).stored 1 (.slice eA en' ec)).stored 2 (.int .i64 ee)); have s0 : W6.cell? ⟨w3.heap.size, 0, none⟩ = some (.slice gA gn gc) := HPX6.out.cell 0; have s1 : W6.cell? ⟨w3.heap.size, 1, none⟩ = some (.slice eA en' ec) := HPX6.out.cell 1; have s2 : W6.cell? ⟨w3.heap.size, 2, none⟩ = some (.int .i64 ee) := HPX6.out.cell 2; have HBW6 := Lib.hid (show Below w.heap.size w W6 from by rw [← hW6]; have hz := HB0.out.size; have hz2 := HB2.out.size; have hz3 := HBS.out.2; exact far_below (far_below (far_below ((to_ HB0.out (to_ HB2.out (to_ HB3.out HW4.out))).trans (HB5.out.mono (by omega))) (by omega)) (by omega)) (by omega)); go_wp2_with (go_at_call 15; refine (few25_any W6 ⟨gA, gn, gc, gs, eA, en', ec, es, ee, cs2⟩ HPL6.out.fr HPL6.out.dr).mono ?_; clear p0 p1 p2 q0 q1 q2 s0 s1 s2 hW6; rintro e w4 ⟨b2, rfl, hb4, hfe⟩; have HB4 := Lib.hid hb4; have HFE := Lib.hid hfe; clear hb4 hfe; cases b2)))
  ·go_wp2_with (go_at_call 12; refine (known25_any _).mono ?_; rintro e w7 ⟨rfl, hb7⟩; have HB7 := Lib.hid hb7; clear hb7)
   go_ret
   exact ⟨rfl, to_ HBW6.out (to_ HB4.out HB7.out)⟩
  ·have HFE9 := Lib.hid (HFE.out (by trivial))
   clear HFE
   have HRP := Lib.hid (fun W (hb : Below w4.heap.size w4 W) => (HPL6.out.rd HFE9.out).on (to_ HB4.out hb))
   have HBW := Lib.hid (show Below w.heap.size w w4 from to_ HBW6.out HB4.out)
   have hgn : gn ≤ 24 := HFE9.out.2.2.1
   have hen : en' ≤ 24 := HFE9.out.2.2.2
   have HL0 := Lib.hid (ls_of (n := gn) (f := directL ⟨gA, gn, gc, gs, eA, en', ec, es, ee, cs2⟩) (fun a => rise_len _ _) (show gn ≤ 100000 by omega))
   have HL1 := Lib.hid (ls_of (n := gn) (f := valuesL ⟨gA, gn, gc, gs, eA, en', ec, es, ee, cs2⟩) (fun a => rise_len _ _) (show gn ≤ 100000 by omega))
   have HL2 := Lib.hid (ls_of (n := gn) (f := refersL ⟨gA, gn, gc, gs, eA, en', ec, es, ee, cs2⟩) (fun a => rise_len _ _) (show gn ≤ 100000 by omega))
   have HL3 := Lib.hid (ls_of (n := gn) (f := viasL ⟨gA, gn, gc, gs, eA, en', ec, es, ee, cs2⟩) (fun a => rise_len _ _) (show 8 ≤ 100000 by omega))
   have HL4 := Lib.hid (ls_of (n := gn) (f := datasL ⟨gA, gn, gc, gs, eA, en', ec, es, ee, cs2⟩) (fun a => rise_len _ _) (show en' ≤ 100000 by omega))
   have HN24 := Lib.hid hgn
   clear hgn hen
   have HP0 := Lib.hid (fun W (hb : Below w4.heap.size w4 W) => direct_tells W _ (HRP.out W hb))
   have HD0 := Lib.hid (fun W (hb : Below w4.heap.size w4 W) => lists0_doc W _ (HRP.out W hb))
   unfold pgV at HP0 HD0
   dsimp only at HP0 HD0
   obtain ⟨L0, hL0⟩ : ∃ L, (List.range gn).map (directL ⟨gA, gn, gc, gs, eA, en', ec, es, ee, cs2⟩) = L := ⟨_, rfl⟩
   rw [hL0] at HP0 HD0 HL0
   clear hL0
   have HP1 := Lib.hid (fun W (hb : Below w4.heap.size w4 W) => values_tells W _ (HRP.out W hb))
   have HD1 := Lib.hid (fun W (hb : Below w4.heap.size w4 W) => lists1_doc W _ (HRP.out W hb))
   unfold pgV at HP1 HD1
   dsimp only at HP1 HD1
   obtain ⟨L1, hL1⟩ : ∃ L, (List.range gn).map (valuesL ⟨gA, gn, gc, gs, eA, en', ec, es, ee, cs2⟩) = L := ⟨_, rfl⟩
   rw [hL1] at HP1 HD1 HL1
   clear hL1
   have HP2 := Lib.hid (fun W (hb : Below w4.heap.size w4 W) => refers_tells W _ (HRP.out W hb))
   have HD2 := Lib.hid (fun W (hb : Below w4.heap.size w4 W) => lists2_doc W _ (HRP.out W hb))
   unfold pgV at HP2 HD2
   dsimp only at HP2 HD2
   obtain ⟨L2, hL2⟩ : ∃ L, (List.range gn).map (refersL ⟨gA, gn, gc, gs, eA, en', ec, es, ee, cs2⟩) = L := ⟨_, rfl⟩
   rw [hL2] at HP2 HD2 HL2
   clear hL2
   have HP3 := Lib.hid (fun W (hb : Below w4.heap.size w4 W) => vias_tells W _ (HRP.out W hb))
   have HD3 := Lib.hid (fun W (hb : Below w4.heap.size w4 W) => lists3_doc W _ (HRP.out W hb))
   unfold pgV at HP3 HD3
   dsimp only at HP3 HD3
   obtain ⟨L3, hL3⟩ : ∃ L, (List.range gn).map (viasL ⟨gA, gn, gc, gs, eA, en', ec, es, ee, cs2⟩) = L := ⟨_, rfl⟩
   rw [hL3] at HP3 HD3 HL3
   clear hL3
   have HP4 := Lib.hid (fun W (hb : Below w4.heap.size w4 W) => datas_tells W _ (HRP.out W hb))
   have HD4 := Lib.hid (fun W (hb : Below w4.heap.size w4 W) => lists4_doc W _ (HRP.out W hb))
   unfold pgV at HP4 HD4
   dsimp only at HP4 HD4
   obtain ⟨L4, hL4⟩ : ∃ L, (List.range gn).map (datasL ⟨gA, gn, gc, gs, eA, en', ec, es, ee, cs2⟩) = L := ⟨_, rfl⟩
   rw [hL4] at HP4 HD4 HL4
   clear hL4
   have p0 : w4.cell? ⟨w3.heap.size, 0, none⟩ = some (.slice gA gn gc) := (HPX6.out.below HB4.out HPX6.out.lt).cell 0
   have p1 : w4.cell? ⟨w3.heap.size, 1, none⟩ = some (.slice eA en' ec) := (HPX6.out.below HB4.out HPX6.out.lt).cell 1
   have p2 : w4.cell? ⟨w3.heap.size, 2, none⟩ = some (.int .i64 ee) := (HPX6.out.below HB4.out HPX6.out.lt).cell 2
   refine wp_region_noPanic ?_
   refine wp_region_held_drew (S := fun W => W.cell? ⟨w3.heap.size, 0, none⟩ = some (.slice gA gn gc) ∧ W.cell? ⟨w3.heap.size, 1, none⟩ = some (.slice eA en' ec) ∧ W.cell? ⟨w3.heap.size, 2, none⟩ = some (.int .i64 ee)) (by kernel_rfl) (⟨p0, p1, p2⟩) (fun hHeld => ?_)
   refine tkZ 0 rfl hHeld ?_
   try simp only [Act.put, nmZ]
   refine tkZ 2 rfl hHeld ?_
   try simp only [Act.put, nmZ]
   refine rdZ 1 rfl (fun K hK => ?_)
   go_simp
   refine (HP0.out _ ((Below.refl _ _).drew)).mono ?_; intro e u0 hh; obtain ⟨A0, c0, rfl, hg, hb⟩ := rows_gr hh HL0.out HN24.out; have HB20 := Lib.hid (to_ ((Below.refl _ _).drew) hb); have HG0 := Lib.hid hg; have HU := Lib.hid hb; clear hh hg hb
   try go_wp2_with fail
   refine hK.out _ _ (cq3 hHeld HU.out) ?_
   clear hK K hHeld
   intro hHeld
   try simp only [Act.put, nmZ]
   refine rdZ 3 rfl (fun K hK => ?_)
   go_simp
   refine (HD0.out _ (HB20.out)).mono ?_; intro e u1 hh; obtain ⟨D0, d0, rfl, hg, hb⟩ := own_gr hh HL0.out; have HB21 := Lib.hid (to_ (HB20.out) hb); have HE0 := Lib.hid hg; have HU := Lib.hid hb; clear hh hg hb
   try go_wp2_with fail
   refine hK.out _ _ (cq3 hHeld HU.out) ?_
   clear hK K hHeld
   intro hHeld
   try simp only [Act.put, nmZ]
   refine rdZ 4 rfl (fun K hK => ?_)
   go_simp
   refine (same10_any _ A0 D0 gn c0 d0 L0 HL0.out.1 (by have := HN24.out; omega) HL0.out.2 (gr_on HG0.out HU.out) HE0.out).mono ?_; rintro e u2 ⟨rfl, hb⟩; have HB22 := Lib.hid (to_ (HB21.out) hb); have HU := Lib.hid hb; clear hb
   try go_wp2_with fail
   refine hK.out _ _ (cq3 hHeld HU.out) ?_
   clear hK K hHeld
   intro hHeld
   try simp only [Act.put, nmZ]
   refine tkZ 5 rfl hHeld ?_
   try simp only [Act.put, nmZ]
   refine tkZ 6 rfl hHeld ?_
   try simp only [Act.put, nmZ]
   refine tkZ 8 rfl hHeld ?_
   try simp only [Act.put, nmZ]
   refine rdZ 7 rfl (fun K hK => ?_)
   go_simp
   refine (HP1.out _ (HB22.out)).mono ?_; intro e u3 hh; obtain ⟨A1, c1, rfl, hg, hb⟩ := rows_gr hh HL1.out HN24.out; have HB23 := Lib.hid (to_ (HB22.out) hb); have HG1 := Lib.hid hg; have HU := Lib.hid hb; clear hh hg hb
   try go_wp2_with fail
   refine hK.out _ _ (cq3 hHeld HU.out) ?_
   clear hK K hHeld
   intro hHeld
   try simp only [Act.put, nmZ]
   refine rdZ 9 rfl (fun K hK => ?_)
   go_simp
   refine (HD1.out _ (HB23.out)).mono ?_; intro e u4 hh; obtain ⟨D1, d1, rfl, hg, hb⟩ := own_gr hh HL1.out; have HB24 := Lib.hid (to_ (HB23.out) hb); have HE1 := Lib.hid hg; have HU := Lib.hid hb; clear hh hg hb
   try go_wp2_with fail
   refine hK.out _ _ (cq3 hHeld HU.out) ?_
   clear hK K hHeld
   intro hHeld
   try simp only [Act.put, nmZ]
   refine rdZ 10 rfl (fun K hK => ?_)
   go_simp
   refine (same10_any _ A1 D1 gn c1 d1 L1 HL1.out.1 (by have := HN24.out; omega) HL1.out.2 (gr_on HG1.out HU.out) HE1.out).mono ?_; rintro e u5 ⟨rfl, hb⟩; have HB25 := Lib.hid (to_ (HB24.out) hb); have HU := Lib.hid hb; clear hb
   try go_wp2_with fail
   refine hK.out _ _ (cq3 hHeld HU.out) ?_
   clear hK K hHeld
   intro hHeld
   try simp only [Act.put, nmZ]
   refine tkZ 11 rfl hHeld ?_
   try simp only [Act.put, nmZ]
   refine tkZ 12 rfl hHeld ?_
   try simp only [Act.put, nmZ]
   refine tkZ 13 rfl hHeld ?_
   try simp only [Act.put, nmZ]
   refine tkZ 15 rfl hHeld ?_
   try simp only [Act.put, nmZ]
   refine rdZ 14 rfl (fun K hK => ?_)
   go_simp
   refine (HP2.out _ (HB25.out)).mono ?_; intro e u6 hh; obtain ⟨A2, c2, rfl, hg, hb⟩ := rows_gr hh HL2.out HN24.out; have HB26 := Lib.hid (to_ (HB25.out) hb); have HG2 := Lib.hid hg; have HU := Lib.hid hb; clear hh hg hb
   try go_wp2_with fail
   refine hK.out _ _ (cq3 hHeld HU.out) ?_
   clear hK K hHeld
   intro hHeld
   try simp only [Act.put, nmZ]
   refine rdZ 16 rfl (fun K hK => ?_)
   go_simp
   refine (HD2.out _ (HB26.out)).mono ?_; intro e u7 hh; obtain ⟨D2, d2, rfl, hg, hb⟩ := own_gr hh HL2.out; have HB27 := Lib.hid (to_ (HB26.out) hb); have HE2 := Lib.hid hg; have HU := Lib.hid hb; clear hh hg hb
   try go_wp2_with fail
   refine hK.out _ _ (cq3 hHeld HU.out) ?_
   clear hK K hHeld
   intro hHeld
   try simp only [Act.put, nmZ]
   refine rdZ 17 rfl (fun K hK => ?_)
   go_simp
   refine (same10_any _ A2 D2 gn c2 d2 L2 HL2.out.1 (by have := HN24.out; omega) HL2.out.2 (gr_on HG2.out HU.out) HE2.out).mono ?_; rintro e u8 ⟨rfl, hb⟩; have HB28 := Lib.hid (to_ (HB27.out) hb); have HU := Lib.hid hb; clear hb
   try go_wp2_with fail
   refine hK.out _ _ (cq3 hHeld HU.out) ?_
   clear hK K hHeld
   intro hHeld
   try simp only [Act.put, nmZ]
   refine tkZ 18 rfl hHeld ?_
   try simp only [Act.put, nmZ]
   refine tkZ 19 rfl hHeld ?_
   try simp only [Act.put, nmZ]
   refine tkZ 20 rfl hHeld ?_
   try simp only [Act.put, nmZ]
   refine tkZ 22 rfl hHeld ?_
   try simp only [Act.put, nmZ]
   refine rdZ 21 rfl (fun K hK => ?_)
   go_simp
   refine (HP3.out _ (HB28.out)).mono ?_; intro e u9 hh; obtain ⟨A3, c3, rfl, hg, hb⟩ := rows_gr hh HL3.out HN24.out; have HB29 := Lib.hid (to_ (HB28.out) hb); have HG3 := Lib.hid hg; have HU := Lib.hid hb; clear hh hg hb
   try go_wp2_with fail
   refine hK.out _ _ (cq3 hHeld HU.out) ?_
   clear hK K hHeld
   intro hHeld
   try simp only [Act.put, nmZ]
   refine rdZ 23 rfl (fun K hK => ?_)
   go_simp
   refine (HD3.out _ (HB29.out)).mono ?_; intro e u10 hh; obtain ⟨D3, d3, rfl, hg, hb⟩ := own_gr hh HL3.out; have HB210 := Lib.hid (to_ (HB29.out) hb); have HE3 := Lib.hid hg; have HU := Lib.hid hb; clear hh hg hb
   try go_wp2_with fail
   refine hK.out _ _ (cq3 hHeld HU.out) ?_
   clear hK K hHeld
   intro hHeld
   try simp only [Act.put, nmZ]
   refine rdZ 24 rfl (fun K hK => ?_)
   go_simp
   refine (same10_any _ A3 D3 gn c3 d3 L3 HL3.out.1 (by have := HN24.out; omega) HL3.out.2 (gr_on HG3.out HU.out) HE3.out).mono ?_; rintro e u11 ⟨rfl, hb⟩; have HB211 := Lib.hid (to_ (HB210.out) hb); have HU := Lib.hid hb; clear hb
   try go_wp2_with fail
   refine hK.out _ _ (cq3 hHeld HU.out) ?_
   clear hK K hHeld
   intro hHeld
   try simp only [Act.put, nmZ]
   refine tkZ 25 rfl hHeld ?_
   try simp only [Act.put, nmZ]
   refine tkZ 26 rfl hHeld ?_
   try simp only [Act.put, nmZ]
   refine tkZ 27 rfl hHeld ?_
   try simp only [Act.put, nmZ]
   refine tkZ 29 rfl hHeld ?_
   try simp only [Act.put, nmZ]
   refine rdZ 28 rfl (fun K hK => ?_)
   go_simp
   refine (HP4.out _ (HB211.out)).mono ?_; intro e u12 hh; obtain ⟨A4, c4, rfl, hg, hb⟩ := rows_gr hh HL4.out HN24.out; have HB212 := Lib.hid (to_ (HB211.out) hb); have HG4 := Lib.hid hg; have HU := Lib.hid hb; clear hh hg hb
   try go_wp2_with fail
   refine hK.out _ _ (cq3 hHeld HU.out) ?_
   clear hK K hHeld
   intro hHeld
   try simp only [Act.put, nmZ]
   refine rdZ 30 rfl (fun K hK => ?_)
   go_simp
   refine (HD4.out _ (HB212.out)).mono ?_; intro e u13 hh; obtain ⟨D4, d4, rfl, hg, hb⟩ := own_gr hh HL4.out; have HB213 := Lib.hid (to_ (HB212.out) hb); have HE4 := Lib.hid hg; have HU := Lib.hid hb; clear hh hg hb
   try go_wp2_with fail
   refine hK.out _ _ (cq3 hHeld HU.out) ?_
   clear hK K hHeld
   intro hHeld
   try simp only [Act.put, nmZ]
   refine rdZ 31 rfl (fun K hK => ?_)
   go_simp
   refine (same10_any _ A4 D4 gn c4 d4 L4 HL4.out.1 (by have := HN24.out; omega) HL4.out.2 (gr_on HG4.out HU.out) HE4.out).mono ?_; rintro e u14 ⟨rfl, hb⟩; have HB214 := Lib.hid (to_ (HB213.out) hb); have HU := Lib.hid hb; clear hb
   try go_wp2_with fail
   refine hK.out _ _ (cq3 hHeld HU.out) ?_
   clear hK K hHeld
   intro hHeld
   try simp only [Act.put, nmZ]
   refine tkZ 32 rfl hHeld ?_
   try simp only [Act.put, nmZ]
   refine tkZ 33 rfl hHeld ?_
   try simp only [Act.put, nmZ]
   refine rdZ 34 rfl (fun K hK => ?_)
   go_simp
   refine (known25_any _).mono ?_; rintro e u15 ⟨rfl, hb⟩; have HB215 := Lib.hid (to_ (HB214.out) hb); have HU := Lib.hid hb; clear hb
   try go_wp2_with fail
   refine hK.out _ _ (cq3 hHeld HU.out) ?_
   clear hK K hHeld
   intro hHeld
   try simp only [Act.put, nmZ]
   refine tkZ 35 rfl hHeld ?_
   try simp only [Act.put, nmZ]
   refine tkZ 36 rfl hHeld ?_
   try simp only [Act.put, nmZ]
   refine wpAnyH_done (by kernel_rfl) ?_ _
   refine NoPanic.normal ?_
   go_wp2_with fail
   go_ret
   exact ⟨rfl, to_ HBW.out HB215.out⟩
end Go.Proofs.YtnenmgefgdpkdaaGreat.Bo
