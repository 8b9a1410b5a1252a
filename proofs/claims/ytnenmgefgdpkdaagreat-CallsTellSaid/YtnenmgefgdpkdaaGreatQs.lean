/-
 WALKS of layer 25: gather.
-/
import Derived.Test.YtnenmgefgdpkdaaGreatZa
import Derived.Test.YtnenmgefgdpkdaaGreatQr
namespace Go.Proofs.YtnenmgefgdpkdaaGreat.Bo
open Go.RowKit Go.Maps
open Mem Rf
set_option linter.unusedSimpArgs false
set_option linter.unusedVariables false
def tlR (m : Int) (x : By.In5) (r : Int) : Int × Bool := (r, oneB r m)
def tlV (x : By.In5) (r : Int) : Int × Bool := (x.2.2.2.1, oneB x.2.2.2.1 8)
def tgO (cs : List By.In5) (rs : List Int) (nR : Nat) (so : List Int) (tl : By.In5 → Int → Int × Bool) (j : Nat) : List Int :=
 if so.contains (By.inAt cs j).1 = true then (if (tl (By.inAt cs j) (rfA rs nR j)).2 = true then [(tl (By.inAt cs j) (rfA rs nR j)).1] else []) else []
def tgL (cs : List By.In5) (rs : List Int) (nR : Nat) (so : List Int) (tl : By.In5 → Int → Int × Bool) (k : Nat) : List Int := (List.range k).flatMap (tgO cs rs nR so tl)
theorem tgL_succ (cs : List By.In5) (rs : List Int) (nR : Nat) (so : List Int) (tl : By.In5 → Int → Int × Bool) (k : Nat) : tgL cs rs nR so tl (k + 1) = tgL cs rs nR so tl k ++ tgO cs rs nR so tl k := by
 unfold tgL; rw [List.range_succ, List.flatMap_append]; simp
theorem tgL_len (cs : List By.In5) (rs : List Int) (nR : Nat) (so : List Int) (tl : By.In5 → Int → Int × Bool) : ∀ k, (tgL cs rs nR so tl k).length ≤ k
 | 0 => by simp [tgL]
 | k + 1 => by
  have h := tgL_len cs rs nR so tl k
  rw [tgL_succ, List.length_append]
  unfold tgO
  split
  ·split
   ·simp; omega
   ·simp; omega
  ·simp; omega
/-- What is gathered of a program's function. -/
def gatP (P : Pgm) (so : List Int) (tl : By.In5 → Int → Int × Bool) (a : Nat) : List Int := tgL (P.cs a) (gfAt P.fs a).refs (gfAt P.fs a).R.2.1 so tl (gfAt P.fs a).F.code.2.1
/-- The rows of the first a functions, of n. -/
def rwsA (n : Nat) (r : Nat → List Int) (a : Nat) : List (List Int) := (List.range n).map fun i => if i < a then r i else []
theorem rwsA_len (n : Nat) (r : Nat → List Int) (a : Nat) : (rwsA n r a).length = n := by simp [rwsA]
theorem rwsA_row {n : Nat} {r : Nat → List Int} {a i : Nat} (hi : i < n) : By.rowOf (rwsA n r a) i = if i < a then r i else [] := by
 unfold By.rowOf rwsA
 rw [List.getD_eq_getElem?_getD, List.getElem?_map, List.getElem?_range hi]; rfl
theorem rwsA_set {n : Nat} {r : Nat → List Int} {a : Nat} (ha : a < n) : (rwsA n r a).set a (r a) = rwsA n r (a + 1) := by
 apply List.ext_getElem
 ·simp [rwsA]
 ·intro i h1 h2
  rw [List.getElem_set]
  by_cases h : a = i
  ·subst h; rw [if_pos rfl]; simp [rwsA]
  ·rw [if_neg h]
   simp only [rwsA, List.getElem_map, List.getElem_range]
   by_cases h3 : i < a
   ·rw [if_pos h3, if_pos (by omega)]
   ·rw [if_neg h3, if_neg (by omega)]
theorem rwsA_nil (n : Nat) (r : Nat → List Int) : rwsA n r 0 = List.replicate n [] := by
 unfold rwsA
 apply List.ext_getElem
 ·simp
 ·intro i h1 h2; simp
theorem rwsA_all (n : Nat) (r : Nat → List Int) : rwsA n r n = (List.range n).map r := by
 unfold rwsA
 refine List.map_congr_left fun i hi => ?_
 rw [if_pos (List.mem_range.1 hi)]
/-- Rows that a call has made, and that are its own. -/
def RowsA (w : World) (n : Nat) (L : List (List Int)) (e : Ending) (w' : World) : Prop :=
 ∃ rb base, e = .returned (.slice (some ⟨rb, 0, none⟩) n n) ∧ By.OwnG w' rb base 42 3 L ∧ w.heap.size ≤ rb ∧ rb < base ∧ Below w.heap.size w w'
theorem ownG_on {w w' : World} {rb base : Nat} {T E : TypeId} {L : List (List Int)} (h : By.OwnG w rb base T E L) (hb : Below w.heap.size w w') : By.OwnG w' rb base T E L := h.keep fun g _ hg => hb.block g hg
theorem own_neb {w : World} {base k n : Nat} {E : TypeId} {v : Value} {xs : List Value} (h : w.ownsRow base E k v n xs) {g : Nat} {t : TypeId} {cs : Array Value} (hb : Blk w g t cs) (hne : t ≠ E) : some g ≠ v.ownBlock := by
 rcases h.2 with ⟨rfl, _⟩ | ⟨g', cap, cur, rfl, _, hg, _⟩
 ·intro e; cases e
 ·intro e
  have e2 : some g = some g' := e
  injection e2 with e2
  subst e2
  have h3 := hb.symm.trans hg
  injection h3 with h3
  injection h3 with _ h4
  exact hne h4
theorem set_row {n : Nat} {r : Nat → List Int} {a : Nat} (ha : a < n) (X : List Int) : By.rowOf ((rwsA n r a).set a X) a = X := by
 unfold By.rowOf
 rw [List.getD_eq_getElem?_getD, List.getElem?_set, if_pos rfl, if_pos (by rw [rwsA_len]; exact ha)]; rfl
theorem set_nil {n : Nat} {r : Nat → List Int} {a : Nat} (ha : a < n) : (rwsA n r a).set a [] = rwsA n r a := by
 have h3 : By.rowOf (rwsA n r a) a = [] := by rw [rwsA_row ha, if_neg (by omega)]
 have h4 : (rwsA n r a)[a]? = some [] := by
  unfold By.rowOf at h3
  rw [List.getD_eq_getElem?_getD, List.getElem?_eq_getElem (by rw [rwsA_len]; exact ha)] at h3
  rw [List.getElem?_eq_getElem (by rw [rwsA_len]; exact ha)]
  exact congrArg some h3
 exact List.ext_getElem? fun i => by
  rw [List.getElem?_set]
  by_cases h5 : a = i
  ·subst h5; rw [if_pos rfl, if_pos (by rw [rwsA_len]; exact ha), h4]
  ·rw [if_neg h5]
set_option maxRecDepth 100000 in
set_option maxHeartbeats 8000000 in
theorem gatherR_any (w : World) (P : Pgm) (h : PgR w P) (g9 : Nat) (m9 : Int) (hg9 : w.cell? ⟨g9, 0, none⟩ = some (.int .i64 m9)) (As : Option Addr) (ms cm : Nat) (so : List Int) (hso : IL w As ms cm so) (hms : 0 < ms ∧ ms ≤ 1000) (gs os : Nat) (hAs : As = some ⟨gs, os, none⟩) :
  Calls Tryz.prog 52 #[pgV P, .func (.func 100) #[] #[.pointer (some ⟨g9, 0, none⟩)], .slice As ms cm] w (RowsA w P.fn ((List.range P.fn).map fun a => By.tidyRow (gatP P so (tlR m9) a))) := by
 obtain ⟨iNf, hiN, hzN0, hzN1, hzN2⟩ := info_split infoInt
 have hfw := h.few.1
 have hmk := By.make_rows P.fn (by omega)
 have HGF := Lib.hid (fun W (hb : Below w.heap.size w W) a (ha : a < P.fn) => gf_at (h.on hb).fr ha)
 have HGR := Lib.hid (fun W (hb : Below w.heap.size w W) a (ha : a < P.fn) => (h.on hb).fns a ha)
 have HCO := Lib.hid (fun W (hb : Below w.heap.size w W) x => contains_il W As ms cm so x (hso.on hb) hms.1 (by omega) gs os hAs)
 have HCL := Lib.hid (fun W (hb : Below w.heap.size w W) (x : By.In5) r => show Calls Tryz.prog 100 #[inV x, .int .i64 r, .pointer (some ⟨g9, 0, none⟩)] W fun e w' => e = .returned (.tuple #[.int .i64 ((tlR m9) x r).1, .bool ((tlR m9) x r).2]) ∧ Below W.heap.size W w' from ref1_any x r m9 g9 W (cell_on hg9 hb))
 have HTL := Lib.hid (fun a (ha : a < P.fn) => show (gatP P so (tlR m9) a).length ≤ 1000000 from by
  have h1 := tgL_len (P.cs a) (gfAt P.fs a).refs (gfAt P.fs a).R.2.1 so (tlR m9) (gfAt P.fs a).F.code.2.1
  have h2 := ((h.fns a ha).few).1
  unfold gatP; omega)
 have HGP := Lib.hid (show ∀ a, gatP P so (tlR m9) a = tgL (P.cs a) (gfAt P.fs a).refs (gfAt P.fs a).R.2.1 so (tlR m9) (gfAt P.fs a).F.code.2.1 from fun a => rfl)
 have HMAP := Lib.hid (show ((List.range P.fn).map (gatP P so (tlR m9))).map By.tidyRow = (List.range P.fn).map fun a => By.tidyRow (gatP P so (tlR m9) a) from by rw [List.map_map]; rfl)
 rw [← HMAP.out]
 obtain ⟨rw9, hrw⟩ : ∃ x, gatP P so (tlR m9) = x := ⟨_, rfl⟩
 rw [hrw] at HTL HGP ⊢
 generalize (tlR m9) = tl at *
 clear h hrw HMAP hso hms
 subst hAs
 obtain ⟨fA, fn, fc, fs, dA, dn, dc, ds, en, cs⟩ := P
 unfold pgV
 dsimp only at HGF HGR HTL HGP hfw hmk ⊢
 obtain ⟨b0, hb0⟩ : ∃ x : Nat, w.heap.size = x := ⟨_, rfl⟩
 obtain ⟨W0, hW0⟩ : ∃ W0, (w.alloc (.cells #[.slice fA fn fc, .slice dA dn dc, .int .i64 en] 29)).alloc (.cells (Array.replicate fn (.slice none 0 0)) 42) = W0 := ⟨_, rfl⟩
 have HB0 := Lib.hid (show Below w.heap.size w W0 from by rw [← hW0]; exact to_ (alloc_ _ _) (alloc_ _ _))
 have HP0 := Lib.hid (show Blk W0 w.heap.size 29 #[.slice fA fn fc, .slice dA dn dc, .int .i64 en] from by rw [← hW0]; exact (Blk.new _ _ _).alloc _)
 have HO0 := Lib.hid (show By.OwnG W0 (w.heap.size + 1) (w.heap.size + 2) 42 3 (rwsA fn rw9 0) from by
  rw [rwsA_nil]
  refine By.OwnG.start W0 fn _ ?_
  have := Blk.new (w.alloc (.cells #[.slice fA fn fc, .slice dA dn dc, .int .i64 en] 29)) 42 (Array.replicate fn (.slice none 0 0))
  rw [World.size_alloc] at this
  rw [← hW0]; exact this)
 clear hb0
 unfold RowsA
 have c0 : W0.cell? ⟨w.heap.size, 0, none⟩ = some (.slice fA fn fc) := HP0.out.cell 0
 go_enter Tryz.func52, Tryz.ntmps52
 go_wp2_with fail
 clear hW0 c0
 go_loopw [21] (fun i9 wr => ∃ a : Nat, a ≤ fn ∧ i9 = .int .i64 (a : Int) ∧ Hid (By.OwnG wr (w.heap.size + 1) (w.heap.size + 2) 42 3 (rwsA fn rw9 a)) ∧ Hid (Below w.heap.size w wr) ∧ Hid (Blk wr w.heap.size 29 #[.slice fA fn fc, .slice dA dn dc, .int .i64 en])) (fun i9 _ => fn - (intOf i9).toNat)
 case atStart => exact ⟨0, Nat.zero_le _, rfl, HO0, HB0, HP0⟩
 case round =>
  obtain ⟨a, ha, rfl, HOG, HBW, HPB⟩ := hrel
  have c0 : wr.cell? ⟨w.heap.size, 0, none⟩ = some (.slice fA fn fc) := HPB.out.cell 0
  by_cases hlt : a < fn
  ·have haI : (a : Int) < (fn : Int) := by omega
   have ha0 : (0 : Int) ≤ (a : Int) := by omega
   have HLT := Lib.hid hlt
   obtain ⟨ad, rfl, hz9, f0, hfc⟩ := HGF.out wr HBW.out a hlt
   have HGA := Lib.hid (fun W (hb : Below w.heap.size w W) => HGR.out W hb a hlt)
   have HGP9 := Lib.hid (HGP.out a)
   have HLEN := Lib.hid (HTL.out a hlt)
   obtain ⟨g, hg⟩ : ∃ g, gfAt fs a = g := ⟨_, rfl⟩
   rw [hg] at hfc f0 HGA HGP9
   clear hg
   obtain ⟨c9, hc9⟩ : ∃ c, cs a = c := ⟨_, rfl⟩
   rw [hc9] at HGA HGP9
   clear hc9
   obtain ⟨file, item, nm, ⟨cl, ⟨kA, kn, kc⟩, pd, no, fr, tt, ⟨lA, ln, lc⟩, ⟨cA, cn, cc⟩, ⟨rA, rn, rc⟩⟩, ⟨qA, qn, qc⟩, refs⟩ := g
   have f1 := hfc 0 _ rfl
   have f2 := hfc 1 _ rfl
   have f3 := hfc 2 _ rfl
   have f4 := hfc 3 _ rfl
   have f5 := hfc 4 _ rfl
   have f6 := hfc 5 _ rfl
   have f7 := hfc 6 _ rfl
   have f8 := hfc 7 _ rfl
   have f9 := hfc 8 _ rfl
   have f10 := hfc 9 _ rfl
   have f11 := hfc 10 _ rfl
   have f12 := hfc 11 _ rfl
   unfold slV at f4 f9 f10 f11 f12
   dsimp only at HGP9 f0 f1 f2 f3 f4 f5 f6 f7 f8 f9 f10 f11 f12
   have hc80 : cn ≤ 80 := (HGA.out w (Below.refl _ _)).few.1
   clear hfc
   obtain ⟨wz, hwz⟩ : ∃ wz, wz = wr := ⟨_, rfl⟩
   subst hwz
   obtain ⟨FBK, hFB⟩ : ∃ x : Nat, wz.heap.size = x := ⟨_, rfl⟩
   have HFB0 := Lib.hid (show Blk (wz.alloc (.cells #[.int .i64 (file : Int), .int .i64 (item : Int), .string nm, .int .i64 cl, .slice kA kn kc, .int .i64 pd, .bool no, .int .i64 fr, .int .i64 tt, .slice lA ln lc, .slice cA cn cc, .slice rA rn rc, .slice qA qn qc] 49)) FBK 49 #[.int .i64 (file : Int), .int .i64 (item : Int), .string nm, .int .i64 cl, .slice kA kn kc, .int .i64 pd, .bool no, .int .i64 fr, .int .i64 tt, .slice lA ln lc, .slice cA cn cc, .slice rA rn rc, .slice qA qn qc] from by rw [← hFB]; exact Blk.new _ _ _)
   have HFBN := Lib.hid (show w.heap.size + 2 ≤ FBK from by have := HOG.out.lt; omega)
   have HHF := Lib.hid hFB
   clear hFB
   go_wp2_with fail
   obtain ⟨wy, hwy⟩ : ∃ wy, wz.alloc (.cells #[.int .i64 (file : Int), .int .i64 (item : Int), .string nm, .int .i64 cl, .slice kA kn kc, .int .i64 pd, .bool no, .int .i64 fr, .int .i64 tt, .slice lA ln lc, .slice cA cn cc, .slice rA rn rc, .slice qA qn qc] 49) = wy := ⟨_, rfl⟩
   have HBY := Lib.hid (show Below wz.heap.size wz wy from by rw [← hwy]; exact alloc_ _ _)
   rw [hwy] at HFB0
   rw [hwy, HHF.out]
   clear hwy c0 f0 f1 f2 f3 f4 f5 f6 f7 f8 f9 f10 f11 f12 hz9
   have HOY := Lib.hid (show By.OwnG wy (w.heap.size + 1) (w.heap.size + 2) 42 3 ((rwsA fn rw9 a).set a (tgL c9 refs qn so tl 0)) from by
    have h1 := ownG_on HOG.out HBY.out
    have h2 : (rwsA fn rw9 a).set a (tgL c9 refs qn so tl 0) = rwsA fn rw9 a := by
     have h3 : By.rowOf (rwsA fn rw9 a) a = [] := by rw [rwsA_row HLT.out, if_neg (by omega)]
     have h4 : (rwsA fn rw9 a)[a]? = some [] := by
      unfold By.rowOf at h3
      rw [List.getD_eq_getElem?_getD, List.getElem?_eq_getElem (by rw [rwsA_len]; exact HLT.out)] at h3
      rw [List.getElem?_eq_getElem (by rw [rwsA_len]; exact HLT.out)]
      exact congrArg some h3
     exact List.ext_getElem? fun i => by
      rw [List.getElem?_set]
      by_cases h5 : a = i
      ·subst h5; rw [if_pos rfl, if_pos (by rw [rwsA_len]; exact HLT.out), h4]; rfl
      ·rw [if_neg h5]
    rw [h2]; exact h1)
   go_loopw [30] (fun i9 wr => ∃ k : Nat, k ≤ cn ∧ i9 = .int .i64 (k : Int) ∧ Hid (By.OwnG wr (w.heap.size + 1) (w.heap.size + 2) 42 3 ((rwsA fn rw9 a).set a (tgL c9 refs qn so tl k))) ∧ Hid (Below w.heap.size w wr) ∧ Hid (Blk wr w.heap.size 29 #[.slice (some ad) fn fc, .slice dA dn dc, .int .i64 en]) ∧ Hid (Blk wr FBK 49 #[.int .i64 (file : Int), .int .i64 (item : Int), .string nm, .int .i64 cl, .slice kA kn kc, .int .i64 pd, .bool no, .int .i64 fr, .int .i64 tt, .slice lA ln lc, .slice cA cn cc, .slice rA rn rc, .slice qA qn qc])) (fun i9 _ => cn - (intOf i9).toNat)
   case atStart => exact ⟨0, Nat.zero_le _, rfl, HOY, Lib.hid (to_ HBW.out HBY.out), Lib.hid (HPB.out.below HBY.out HPB.out.lt), HFB0⟩
   case round =>
    obtain ⟨k, hk, rfl, HOG, HBW, HPB, HFB⟩ := hrel
    by_cases hkl : k < cn
    ·have hkI : (k : Int) < (cn : Int) := by omega
     have hk0 : (0 : Int) ≤ (k : Int) := by omega
     have HKL := Lib.hid hkl
     obtain ⟨cad, rfl, hz1, z0, z1, z2, z3, z4⟩ := in_at (HGA.out wr HBW.out).code hkl
     have HTS := Lib.hid (tgL_succ c9 refs qn so tl k)
     have htl := tgL_len c9 refs qn so tl k
     have HTG := Lib.hid (show tgO c9 refs qn so tl k = if so.contains (By.inAt c9 k).1 = true then (if (tl (By.inAt c9 k) (rfA refs qn k)).2 = true then [(tl (By.inAt c9 k) (rfA refs qn k)).1] else []) else [] from rfl)
     have HRA := Lib.hid (fun W (hb : Below w.heap.size w W) => refAt_any W qA qn qc refs (HGA.out W hb).refs k)
     have HCL := Lib.hid (fun W hb => HCL.out W hb (By.inAt c9 k))
     unfold inV at HCL
     obtain ⟨⟨op, ia, ib, ic, iN⟩, hx⟩ : ∃ x, By.inAt c9 k = x := ⟨_, rfl⟩
     rw [hx] at z0 z1 z2 z3 z4 HTG HCL
     dsimp only at z0 z1 z2 z3 z4 HTG HCL
     obtain ⟨rf9, hrf⟩ : ∃ x, rfA refs qn k = x := ⟨_, rfl⟩
     rw [hrf] at HTG HRA
     have HCL := Lib.hid (fun W hb => HCL.out W hb rf9)
     obtain ⟨⟨tn, tb⟩, ht9⟩ : ∃ x, tl (op, ia, ib, ic, iN) rf9 = x := ⟨_, rfl⟩
     rw [ht9] at HTG HCL
     dsimp only at HTG HCL
     clear hx hrf ht9
     have HCT := Lib.hid (fun W (hb : Below w.heap.size w W) => HCO.out W hb op)
     obtain ⟨bc, hbc⟩ : ∃ b, so.contains op = b := ⟨_, rfl⟩
     rw [hbc] at HTG HCT
     clear hbc
     obtain ⟨IBK, hIB⟩ : ∃ x : Nat, wr.heap.size = x := ⟨_, rfl⟩
     obtain ⟨wI, hwI⟩ : ∃ x, wr.alloc (.cells #[.int .i64 op, .int .i64 ia, .int .i64 ib, .int .i64 ic, .int .i64 iN] 51) = x := ⟨_, rfl⟩
     have hbI : Below wr.heap.size wr wI := by rw [← hwI]; exact alloc_ _ _
     have HIB := Lib.hid (show Blk wI IBK 51 #[.int .i64 op, .int .i64 ia, .int .i64 ib, .int .i64 ic, .int .i64 iN] from by rw [← hwI, ← hIB]; exact Blk.new _ _ _)
     have HWI := Lib.hid (to_ HBW.out hbI)
     have HBI := Lib.hid hbI
     have HHI := Lib.hid hIB
     have HFBI := Lib.hid (HFB.out.below hbI HFB.out.lt)
     have HPBI := Lib.hid (HPB.out.below hbI HPB.out.lt)
     have HOGI := Lib.hid (ownG_on HOG.out hbI)
     have HEQ := Lib.hid hwI
     clear hbI hIB hwI
     cases bc with
     | false =>
      have HR := Lib.hid (show tgL c9 refs qn so tl (k + 1) = tgL c9 refs qn so tl k from by rw [HTS.out, HTG.out]; simp)
      go_wp2_with (go_at_call 97; rw [HEQ.out]; refine (HCT.out _ HWI.out).mono ?_; rintro e w2 ⟨rfl, rfl⟩)
      go_roundw
      case rel => exact ⟨k + 1, by have := HKL.out; omega, by go_num, Lib.hid (by rw [HR.out]; exact HOGI.out), HWI, HPBI, HFBI⟩
      case measure => have := HKL.out; simp [intOf]; omega
     | true =>
      go_wp2_with (go_at_call 97; rw [HEQ.out]; refine (HCT.out _ HWI.out).mono ?_; rintro e w2 ⟨rfl, rfl⟩)
      rw [HHI.out]
      have i0 := HIB.out.cell 0
      have i1 := HIB.out.cell 1
      have i2 := HIB.out.cell 2
      have i3 := HIB.out.cell 3
      have i4 := HIB.out.cell 4
      have x12 := HFBI.out.cell 12
      refine wp_region_noPanic ?_
      refine wp_region_held_drew (S := fun W => W.cell? ⟨IBK, 0, none⟩ = some (.int .i64 op) ∧ W.cell? ⟨IBK, 1, none⟩ = some (.int .i64 ia) ∧ W.cell? ⟨IBK, 2, none⟩ = some (.int .i64 ib) ∧ W.cell? ⟨IBK, 3, none⟩ = some (.int .i64 ic) ∧ W.cell? ⟨IBK, 4, none⟩ = some (.int .i64 iN) ∧ W.cell? ⟨FBK, 12, none⟩ = some (.slice qA qn qc)) (by kernel_rfl) (⟨i0, i1, i2, i3, i4, x12⟩) (fun hHeld => ?_)
      refine tkZ 0 rfl hHeld ?_
      try simp only [Act.put, nmZ]
      refine tkZ 1 rfl hHeld ?_
      try simp only [Act.put, nmZ]
      refine tkZ 2 rfl hHeld ?_
      try simp only [Act.put, nmZ]
      refine tkZ 3 rfl hHeld ?_
      try simp only [Act.put, nmZ]
      refine tkZ 4 rfl hHeld ?_
      try simp only [Act.put, nmZ]
      refine wpAnyH_ready (rs := [5]) (by kernel_rfl) (by simp) ?_
      refine AllReadyH.cons rfl (fun K hK => ?_) AllReadyH.nil
      go_simp
      refine (HRA.out _ HWI.out.drew).mono ?_
      rintro e w3 ⟨rfl, rfl⟩
      try go_wp2_with fail
      refine hK.out _ _ (hHeld) ?_
      clear hK K hHeld
      intro hHeld
      try simp only [Act.put, nmZ]
      refine wpAnyH_ready (rs := [6]) (by kernel_rfl) (by simp) ?_
      refine AllReadyH.cons rfl (fun K hK => ?_) AllReadyH.nil
      go_simp
      refine (HCL.out _ HWI.out.drew).mono ?_
      rintro e w3 ⟨rfl, b3⟩
      have HB3 := Lib.hid b3
      clear b3
      try go_wp2_with fail
      refine hK.out _ _ (⟨cell_on hHeld.1 HB3.out, cell_on hHeld.2.1 HB3.out, cell_on hHeld.2.2.1 HB3.out, cell_on hHeld.2.2.2.1 HB3.out, cell_on hHeld.2.2.2.2.1 HB3.out, cell_on hHeld.2.2.2.2.2 HB3.out⟩) ?_
      clear hK K hHeld
      intro hHeld
      try simp only [Act.put, nmZ]
      refine tkZ 7 rfl hHeld ?_
      try simp only [Act.put, nmZ]
      refine tkZ 8 rfl hHeld ?_
      try simp only [Act.put, nmZ]
      refine tkZ 9 rfl hHeld ?_
      try simp only [Act.put, nmZ]
      refine tkZ 10 rfl hHeld ?_
      try simp only [Act.put, nmZ]
      refine tkZ 11 rfl hHeld ?_
      try simp only [Act.put, nmZ]
      refine wpAnyH_done (by kernel_rfl) ?_ _
      refine NoPanic.normal ?_
      cases tb with
      | false =>
       have HB23 := Lib.hid (to_ (Below.refl w2.heap.size w2).drew HB3.out)
       have HR := Lib.hid (show tgL c9 refs qn so tl (k + 1) = tgL c9 refs qn so tl k from by rw [HTS.out, HTG.out]; simp)
       go_wp2_with fail
       go_roundw
       case rel => exact ⟨k + 1, by have := HKL.out; omega, by go_num, Lib.hid (by rw [HR.out]; exact ownG_on HOGI.out HB23.out), Lib.hid (to_ HWI.out HB23.out), Lib.hid (HPBI.out.below HB23.out HPBI.out.lt), Lib.hid (HFBI.out.below HB23.out HFBI.out.lt)⟩
       case measure => have := HKL.out; simp [intOf]; omega
      | true =>
       have HB23 := Lib.hid (to_ (Below.refl w2.heap.size w2).drew HB3.out)
       have HNX := Lib.hid (show tgL c9 refs qn so tl (k + 1) = tgL c9 refs qn so tl k ++ [tn] from by rw [HTS.out, HTG.out]; simp)
       obtain ⟨XL, hXL⟩ : ∃ x, tgL c9 refs qn so tl k = x := ⟨_, rfl⟩
       rw [hXL] at htl HNX
       have HO3 := ownG_on HOGI.out HB23.out
       rw [hXL] at HO3
       clear hXL HTG HTS
       have HB03 := Lib.hid (to_ HWI.out HB23.out)
       have HFB3 := Lib.hid (HFBI.out.below HB23.out HFBI.out.lt)
       have HPB3 := Lib.hid (HPBI.out.below HB23.out HPBI.out.lt)
       obtain ⟨rv, hcell, hfr, hone, hrow, ⟨RA, RC, hrv⟩, hput⟩ := HO3.at_ (by omega) (a := a) (by rw [List.length_set, rwsA_len]; exact HLT.out)
       rw [set_row HLT.out] at hrow hrv
       have HP := Lib.hid hput
       have hlt3 := HO3.lt
       have hownA := By.own_keep (w' := w3.alloc (.cells #[.int .i64 tn] 3)) hrow (fun k _ hk _ => Below.heap_alloc _ _ _ hk)
       have hnewA : (w3.alloc (.cells #[.int .i64 tn] 3)).cell? ⟨w3.heap.size, 0, none⟩ = some (.int .i64 tn) := by
        have := (Blk.new w3 3 #[.int .i64 tn]).cell 0
        exact this
       have hrbA : (w3.alloc (.cells #[.int .i64 tn] 3)).cell? ⟨w.heap.size + 1, a, none⟩ = some rv := by
        rw [World.cell?_alloc_lt _ _ _ (by show w.heap.size + 1 < w3.heap.size; omega)]; exact hcell
       have hfrA : (w3.alloc (.cells #[.int .i64 tn] 3)).frozen? ⟨w.heap.size + 1, a, none⟩ = false := by
        rw [World.frozen?_alloc_past _ _ _ (by show w.heap.size + 1 < w3.heap.size; omega)]; exact hfr
       have HRB := Lib.hid (show some (w.heap.size + 1) ≠ rv.ownBlock from fun e => by have := (hrow.lt _ e.symm).1; omega)
       have HRP := Lib.hid (show some w.heap.size ≠ rv.ownBlock from fun e => by have := (hrow.lt _ e.symm).1; omega)
       have HRF := Lib.hid (own_neb hrow HFB3.out (by decide))
       have HBS := Lib.hid (show ∀ r, rv.ownBlock = some r → w.heap.size + 2 ≤ r from fun r e => (hrow.lt r e).1)
       have HL1 : XL.length + 1 ≤ maxLen := by unfold maxLen; omega
       have HL2 : (XL.length + 1) * 8 ≤ 140737488355328 := by omega
       have HEnd := Lib.hid (show ∀ (g' cap' : Nat) (w' : World), w'.ownsRow (w.heap.size + 2) 3 1 (.slice (some ⟨g', 0, none⟩) (XL.length + 1) cap') (XL.length + 1) (By.ints XL ++ [.int .i64 tn]) →
         (w3.alloc (.cells #[.int .i64 tn] 3)).grownBy w' rv.ownBlock →
         ((Value.slice (some ⟨g', 0, none⟩) (XL.length + 1) cap').ownBlock = rv.ownBlock ∨ (Value.slice (some ⟨g', 0, none⟩) (XL.length + 1) cap').ownBlock = some (w3.alloc (.cells #[.int .i64 tn] 3)).heap.size) →
         By.OwnG (w'.setCell ⟨w.heap.size + 1, a, none⟩ (.slice (some ⟨g', 0, none⟩) (XL.length + 1) cap')) (w.heap.size + 1) (w.heap.size + 2) 42 3 ((rwsA fn rw9 a).set a (XL ++ [tn])) ∧
         Below w.heap.size w (w'.setCell ⟨w.heap.size + 1, a, none⟩ (.slice (some ⟨g', 0, none⟩) (XL.length + 1) cap')) ∧
         Blk (w'.setCell ⟨w.heap.size + 1, a, none⟩ (.slice (some ⟨g', 0, none⟩) (XL.length + 1) cap')) w.heap.size 29 #[.slice (some ad) fn fc, .slice dA dn dc, .int .i64 en] ∧
         Blk (w'.setCell ⟨w.heap.size + 1, a, none⟩ (.slice (some ⟨g', 0, none⟩) (XL.length + 1) cap')) FBK 49 #[.int .i64 (file : Int), .int .i64 (item : Int), .string nm, .int .i64 cl, .slice kA kn kc, .int .i64 pd, .bool no, .int .i64 fr, .int .i64 tt, .slice lA ln lc, .slice (some cad) cn cc, .slice rA rn rc, .slice qA qn qc] from by
        intro g' cap' w' h2 h3 h4
        refine ⟨?_, ?_, ?_, ?_⟩
        ·have h5 := HP.out (.slice (some ⟨g', 0, none⟩) (XL.length + 1) cap') (XL ++ [tn]) w' rfl (by simpa [By.ints] using h2)
          (by
           rcases h4 with h4 | h4
           ·exact .inr (.inl h4)
           ·exact .inr (.inr ⟨_, h4, by simp⟩))
          (fun k hk hlt hne => (h3.block k (by simp; omega) (fun e => hne e.symm)).trans (Below.heap_alloc _ _ _ hlt))
         rwa [List.set_set] at h5
        ·refine (HB03.out.trans ?_).setCell (p := ⟨w.heap.size + 1, a, none⟩) (by show w.heap.size ≤ w.heap.size + 1; omega) _
         exact ((Below.refl w.heap.size w3).alloc (by have := HB03.out.size; omega) _).grown h3 (by simp; omega) fun r e => by have := HBS.out r e; omega
        ·have h6 := HPB3.out.alloc (.cells #[.int .i64 tn] 3)
         exact ((heap_setCell_other _ _ _ _ (by show w.heap.size ≠ w.heap.size + 1; omega)).trans (h3.block _ h6.lt HRP.out)).trans h6
        ·have h6 := HFB3.out.alloc (.cells #[.int .i64 tn] 3)
         exact ((heap_setCell_other _ _ _ _ (by show FBK ≠ w.heap.size + 1; have := HFBN.out; omega)).trans (h3.block _ h6.lt HRF.out)).trans h6)
       rw [← HNX.out] at HEnd
       subst hrv
       clear hput hrow hone HO3
       have HNEW := Lib.hid (show ∀ j u, [Value.int .i64 tn][j]? = some u → (w3.alloc (.cells #[.int .i64 tn] 3)).cell? ((⟨w3.heap.size, 0, none⟩ : Addr).add j) = some u from fun j u hj => by
        rcases j with _ | j
        ·injection hj with hj; subst hj; exact hnewA
        ·cases hj)
       go_wp2_with (at_builtin; go_loud (refine wpList_append_own_at _ rfl _ _ 42 rfl (w.heap.size + 2) 3 iNf (.int .i64 0) 1 8 Tryz.underlying42 hiN hzN0 hzN1 hzN2 rfl (by omega) _ _ _ rfl hownA ⟨w3.heap.size, 0, none⟩ 1 1 [.int .i64 tn] rfl rfl HNEW.out (by simp [Value.oneCell']) HL1 HL2 (by simp; omega) ?_); intro v' w' h2 h3 _ h4; obtain ⟨g', cap', hv'⟩ := ownsRow_succ h2; subst hv'; have hrb' := h3.cell hrbA HRB.out; have hfr' : w'.frozen? ⟨w.heap.size + 1, a, none⟩ = false := (World.frozen?_of_block (h3.block (w.heap.size + 1) (World.block_lt_of_cell? _ _ hrbA) HRB.out)).trans hfrA; have h5 := HEnd.out _ _ _ h2 h3 h4; have H51 := Lib.hid h5.1; have H52 := Lib.hid h5.2.1; have H53 := Lib.hid h5.2.2.1; have H54 := Lib.hid h5.2.2.2; clear h2 h3 h4 h5 hownA hnewA hrbA hfrA hcell hfr)
       go_roundw
       case rel => exact ⟨k + 1, by have := HKL.out; omega, by go_num, H51, H52, H53, H54⟩
       case measure => have := HKL.out; simp [intOf]; omega
    ·obtain rfl : cn = k := by omega
     have HO9 := Lib.hid (show By.OwnG wr (w.heap.size + 1) (w.heap.size + 2) 42 3 (rwsA fn rw9 (a + 1)) from by
      have h1 := HOG.out
      rw [← HGP9.out, rwsA_set HLT.out] at h1; exact h1)
     go_wp2_with fail
     go_roundw
     case rel => exact ⟨a + 1, by have := HLT.out; omega, by go_num, HO9, HBW, HPB⟩
     case measure => have := HLT.out; simp [intOf]; omega
  ·obtain rfl : fn = a := by omega
   have hct := By.ctidy_any wr (w.heap.size + 1) (w.heap.size + 2) (rwsA fn rw9 fn) HOG.out (by omega) (by rw [rwsA_len]; omega) (fun i => by
    by_cases hi : i < fn
    ·rw [rwsA_row hi, if_pos hi]; exact HTL.out i hi
    ·unfold By.rowOf
     rw [List.getD_eq_getElem?_getD, List.getElem?_eq_none (by rw [rwsA_len]; omega)]; simp)
   rw [rwsA_len, rwsA_all] at hct
   have HCT := Lib.hid hct
   have HLW := Lib.hid HOG.out.lt
   clear hct
   go_wp2_with (go_at_call 99; refine HCT.out.mono ?_; rintro e w2 ⟨rfl, hO2, hK2⟩; have HO2 := Lib.hid hO2; have HK2 := Lib.hid hK2; clear hO2 hK2)
   go_ret
   exact ⟨_, _, rfl, HO2.out, by omega, by omega, HBW.out.trans (HK2.out.below HBW.out.size (fun k hk => by omega))⟩
end Go.Proofs.YtnenmgefgdpkdaaGreat.Bo
