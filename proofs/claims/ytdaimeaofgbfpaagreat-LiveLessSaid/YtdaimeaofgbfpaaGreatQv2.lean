/-
 Qr2 Qs2 Qu2 Qv2
-/
import Derived.Test.YtdaimeaofgbfpaaGreatZa2
import Derived.Test.YtdaimeaofgbfpaaGreatPj2
import Derived.Test.YtdaimeaofgbfpaaGreatQp2
set_option linter.unusedSimpArgs false
set_option linter.unusedVariables false
namespace Go.Proofs.YtdaimeaofgbfpaaGreat.By
open Go.RowKit
open Mem Gm Rf
set_option maxHeartbeats 2000000 in
theorem ctidy_any (W : World) (rb base : Nat) (L : List (List Int)) (hown : OwnG W rb base 44 3 L) (hrb : rb < base) (hL : L.length ≤ 1000) (hR : ∀ i, (rowOf L i).length ≤ 1000000) :
  Calls Tryz.prog 127 #[.slice (some ⟨rb, 0, none⟩) L.length L.length] W fun e w' => e = .returned (.slice (some ⟨rb, 0, none⟩) L.length L.length) ∧ OwnG w' rb base 44 3 (L.map tidyRow) ∧ Keeps (fun k => k ≠ rb ∧ k < base) W w' := by
 obtain ⟨N, hN⟩ : ∃ N, L.length = N := ⟨_, rfl⟩
 have hall := tidyTo_all L
 rw [hN] at hL hall ⊢
 have HN := Hd hN
 have HA := Hd hall
 have h0 : OwnG W rb base 44 3 (tidyTo 0 L) := by simpa [tidyTo] using hown
 clear hN hall hown
 go_enter Tryz.func127, Tryz.ntmps127
 go_wp2
 go_loopw [7] (fun i wr => ∃ k : Nat, k ≤ N ∧ i = .int .i64 k ∧ OwnG wr rb base 44 3 (tidyTo k L) ∧ Keeps (fun k => k ≠ rb ∧ k < base) W wr) (fun i _ => N - (intOf i).toNat)
 case atStart => exact ⟨0, Nat.zero_le _, rfl, h0, Keeps.refl _ _⟩
 case round =>
  obtain ⟨k, hk, rfl, hO, hK⟩ := hrel
  by_cases hlt : k < N
  ·have hkL : k < L.length := by rw [HN.out]; exact hlt
   obtain ⟨rv, hcell, hfr, hone, hrow, ⟨RA, RC, hrv⟩, hput⟩ := hO.at_ hrb (a := k) (by rw [tidyTo_length]; exact hkL)
   have hlt' := hO.lt
   rw [tidyTo_row hkL] at hrow hrv
   have HP := Hd hput
   have hnext := Hd (tidyTo_next hkL)
   have hS := Hd (sort_own wr base rv (rowOf L k) hrow (hR k))
   have HOB := Hd (show ∀ r, rv.ownBlock = some r → base ≤ r from fun r e => (hrow.lt r e).1)
   have HNE : Hid (some rb ≠ rv.ownBlock) := fun e => by have := HOB.out rb e.symm; omega
   have HFR : Hid (wr.frozen? ⟨rb, k, none⟩ = false) := hfr
   subst hrv
   clear hput hO hone hrow hkL hfr
   go_wp2_with (first
    | (go_at_call 111; refine hS.out.mono ?_; rintro e w1 ⟨rfl, hown1, hg1⟩; have HO1 := Hd hown1; have HG1 := Hd hg1; clear hown1 hg1)
    | (go_at_call 132; refine (compact_own _ base _ _ HO1.out).mono ?_; rintro e w2 ⟨CA, CC, rfl, hown2, hg2, hob2⟩; have HO2 := Hd hown2; have HG2 := Hd hg2; have HB2 := Hd hob2; have c2 := hg2.cell (HG1.out.cell hcell HNE.out) HNE.out; have f2 : w2.frozen? ⟨rb, k, none⟩ = false := ((World.frozen?_of_block ((hg2.block rb (Nat.lt_of_lt_of_le hlt' HG1.out.size) HNE.out).trans (HG1.out.block rb hlt' HNE.out))).trans HFR.out); clear hown2 hg2 hob2))
   have hg := only_two HG1.out HG2.out
   have hfin := HP.out _ (tidyRow (rowOf L k)) w2 rfl HO2.out (.inr (.inl HB2.out)) (fun q _ hq hne => hg.block q hq (fun e => hne e.symm))
   rw [hnext.out] at hfin
   have hKf : Keeps (fun k => k ≠ rb ∧ k < base) W (w2.setCell ⟨rb, k, none⟩ (.slice CA (tidyRow (rowOf L k)).length CC)) :=
    (hK.grown hg fun r e h => by have := HOB.out r e; omega).setCell (by simp) _
   go_roundw
   case rel => exact ⟨k + 1, by omega, by go_num, hfin, hKf⟩
   case measure => simp [intOf]; omega
  ·obtain rfl : k = N := by omega
   rw [HA.out] at hO
   go_wp2
   go_ret
   exact ⟨rfl, hO, hK⟩
end Go.Proofs.YtdaimeaofgbfpaaGreat.By
namespace Go.Proofs.YtdaimeaofgbfpaaGreat.Bo
open Go.RowKit Go.Maps
open Mem Rf
def oneB (p n : Int) : Bool := decide (0 ≤ p) && decide (p < n)
theorem isOne_any (p n : Int) (w : World) : Calls Tryz.prog 96 #[.int .i64 p, .int .i64 n] w fun e w' => e = .returned (.bool (oneB p n)) ∧ w' = w := by
 unfold oneB
 by_cases h0 : 0 ≤ p
 focus
  have h0' : decide (0 ≤ p) = true := decide_eq_true h0
  by_cases h1 : p < n
  focus
   have h1' : decide (p < n) = true := decide_eq_true h1
  rotate_left
  focus
   have h1' : decide (p < n) = false := decide_eq_false h1
  rotate_left
  all_goals
   rw [h0', h1']
 rotate_left 2
 focus
  have h0' : decide (0 ≤ p) = false := decide_eq_false h0
  rw [h0', Bool.false_and]
 rotate_left
 all_goals
  go_enter Tryz.func96, Tryz.ntmps96
  go_wp2
  all_goals go_ret
  all_goals exact ⟨rfl, rfl⟩
def rfA (l : List Int) (n i : Nat) : Int := if i < n then l.getD i 0 else -1
theorem refAt_any (w : World) (A : Option Addr) (n c : Nat) (l : List Int) (h : IL w A n c l) (i : Nat) : Calls Tryz.prog 128 #[.slice A n c, .int .i64 (i : Int)] w fun e w' => e = .returned (.int .i64 (rfA l n i)) ∧ w' = w := by
 unfold rfA
 by_cases hi : i < n
 focus
  rw [if_pos hi]
  obtain ⟨ad, rfl, _, z0⟩ := h.at_ hi
  have h1 : ¬ (n : Int) ≤ (i : Int) := by omega
  have h2 : (i : Int) < (n : Int) := by omega
  have h3 : (0 : Int) ≤ (i : Int) := by omega
  clear h hi
  generalize l.getD i 0 = z at *
 rotate_left
 focus
  rw [if_neg hi]
  have h1 : (n : Int) ≤ (i : Int) := by omega
  clear h hi
 rotate_left
 all_goals
  go_enter Tryz.func128, Tryz.ntmps128
  go_wp2_with fail
  go_ret
  exact ⟨rfl, rfl⟩
theorem referred_any (m : Int) (w : World) : Calls Tryz.prog 89 #[.int .i64 m] w fun e w' => e = .returned (.func (.func 129) #[] #[.pointer (some ⟨w.heap.size, 0, none⟩)]) ∧ w' = w.alloc (.cells #[.int .i64 m] 3) := by
 go_enter Tryz.func89, Tryz.ntmps89
 go_wp2
 go_ret
 exact ⟨rfl, rfl⟩
def inV (x : By.In5) : Value := .agg #[.int .i64 x.1, .int .i64 x.2.1, .int .i64 x.2.2.1, .int .i64 x.2.2.2.1, .int .i64 x.2.2.2.2]
theorem ref1_any (x : By.In5) (r m : Int) (g : Nat) (w : World) (hg : w.cell? ⟨g, 0, none⟩ = some (.int .i64 m)) : Calls Tryz.prog 129 #[inV x, .int .i64 r, .pointer (some ⟨g, 0, none⟩)] w fun e w' => e = .returned (.tuple #[.int .i64 r, .bool (oneB r m)]) ∧ Below w.heap.size w w' := by
 have HI := Hd (fun W => isOne_any r m W)
 have hz := World.block_lt_of_cell? w _ hg
 obtain ⟨x0, x1, x2, x3, x4⟩ := x
 unfold inV
 dsimp only
 generalize oneB r m = b at *
 go_enter Tryz.func129, Tryz.ntmps129
 go_wp2_with (go_at_call 96; refine (HI.out _).mono ?_; rintro e w2 ⟨rfl, rfl⟩)
 refine bodyPost_ret (v := .tuple #[.int .i64 r, .bool b]) (by simp [results, Tryz.results129, go_sem]) rfl ⟨rfl, alloc_ _ _⟩
theorem vias1_any (x : By.In5) (r : Int) (w : World) : Calls Tryz.prog 95 #[inV x, .int .i64 r] w fun e w' => e = .returned (.tuple #[.int .i64 x.2.2.2.1, .bool (oneB x.2.2.2.1 8)]) ∧ Below w.heap.size w w' := by
 have HI := Hd (fun W => isOne_any x.2.2.2.1 8 W)
 obtain ⟨x0, x1, x2, x3, x4⟩ := x
 unfold inV
 dsimp only at HI ⊢
 generalize oneB x3 8 = b at *
 have hb := Blk.new w 53 #[.int .i64 x0, .int .i64 x1, .int .i64 x2, .int .i64 x3, .int .i64 x4]
 have c3 : (w.alloc (.cells #[.int .i64 x0, .int .i64 x1, .int .i64 x2, .int .i64 x3, .int .i64 x4] 53)).cell? ⟨w.heap.size, 3, none⟩ = some (.int .i64 x3) := hb.cell 3
 clear hb
 go_enter Tryz.func95, Tryz.ntmps95
 go_wp2_with fail
 go_quiet ((go_at_call 96; exact Calls.quiet_of_same (HI.out _)))
 go_wp2_with fail
 refine bodyPost_ret (v := .tuple #[.int .i64 x3, .bool b]) (by simp [results, Tryz.results95, go_sem]) rfl ⟨rfl, below_drewN (alloc_ _ _) _⟩
theorem contains_il (w : World) (A : Option Addr) (n c : Nat) (l : List Int) (x : Int) (h : IL w A n c l) (h0 : 0 < n) (hn : n ≤ 1000000) (g o : Nat) (hA : A = some ⟨g, o, none⟩) : Calls Tryz.prog 110 #[.slice A n c, .int .i64 x] w fun e w' => e = .returned (.bool (l.contains x)) ∧ w' = w := by
 subst hA
 have hl : l.length = n := h.1
 refine (Tryz.slices_Contains_int g o n c l x w (by omega) (by omega) (fun j hj => ?_)).mono fun e w' hh => ?_
 ·obtain ⟨ad, e, _, hc⟩ := h.at_ (i := j) (by omega)
  obtain rfl := Option.some.inj e
  rw [add_plain] at hc
  exact hc
 ·rw [← hl, List.take_length] at hh; exact hh
def tlR (m : Int) (x : By.In5) (r : Int) : Int × Bool := (r, oneB r m)
def tlV (x : By.In5) (r : Int) : Int × Bool := (x.2.2.2.1, oneB x.2.2.2.1 8)
def tgO (cs : List By.In5) (rs : List Int) (nR : Nat) (so : List Int) (tl : By.In5 → Int → Int × Bool) (j : Nat) : List Int :=
 if so.contains (By.inAt cs j).1 = true then (if (tl (By.inAt cs j) (rfA rs nR j)).2 = true then [(tl (By.inAt cs j) (rfA rs nR j)).1] else []) else []
def tgL (cs : List By.In5) (rs : List Int) (nR : Nat) (so : List Int) (tl : By.In5 → Int → Int × Bool) (k : Nat) : List Int := (List.range k).flatMap (tgO cs rs nR so tl)
theorem tgL_succ (cs : List By.In5) (rs : List Int) (nR : Nat) (so : List Int) (tl : By.In5 → Int → Int × Bool) (k : Nat) : tgL cs rs nR so tl (k + 1) = tgL cs rs nR so tl k ++ tgO cs rs nR so tl k := by
 unfold tgL; rw [List.range_succ, List.flatMap_append]; simp
theorem tgL_len (cs : List By.In5) (rs : List Int) (nR : Nat) (so : List Int) (tl : By.In5 → Int → Int × Bool) : ∀ k, (tgL cs rs nR so tl k).length ≤ k
 | 0 => by simp [tgL]
 | k + 1 => by
  have h := tgL_len cs rs nR so tl k
  rw [tgL_succ, List.length_append]
  unfold tgO
  split
  ·split
   ·simp; omega
   ·simp; omega
  ·simp; omega
def gatP (P : Pgm) (so : List Int) (tl : By.In5 → Int → Int × Bool) (a : Nat) : List Int := tgL (P.cs a) (gfAt P.fs a).refs (gfAt P.fs a).R.2.1 so tl (gfAt P.fs a).F.code.2.1
def rwsA (n : Nat) (r : Nat → List Int) (a : Nat) : List (List Int) := (List.range n).map fun i => if i < a then r i else []
theorem rwsA_len (n : Nat) (r : Nat → List Int) (a : Nat) : (rwsA n r a).length = n := by simp [rwsA]
theorem rwsA_row {n : Nat} {r : Nat → List Int} {a i : Nat} (hi : i < n) : By.rowOf (rwsA n r a) i = if i < a then r i else [] := by
 unfold By.rowOf rwsA
 rw [List.getD_eq_getElem?_getD, List.getElem?_map, List.getElem?_range hi]; rfl
theorem rwsA_set {n : Nat} {r : Nat → List Int} {a : Nat} (ha : a < n) : (rwsA n r a).set a (r a) = rwsA n r (a + 1) := by
 apply List.ext_getElem
 ·simp [rwsA]
 ·intro i h1 h2
  rw [List.getElem_set]
  by_cases h : a = i
  ·subst h; rw [if_pos rfl]; simp [rwsA]
  ·rw [if_neg h]
   simp only [rwsA, List.getElem_map, List.getElem_range]
   by_cases h3 : i < a
   ·rw [if_pos h3, if_pos (by omega)]
   ·rw [if_neg h3, if_neg (by omega)]
theorem rwsA_nil (n : Nat) (r : Nat → List Int) : rwsA n r 0 = List.replicate n [] := by
 unfold rwsA
 apply List.ext_getElem
 ·simp
 ·intro i h1 h2; simp
theorem rwsA_all (n : Nat) (r : Nat → List Int) : rwsA n r n = (List.range n).map r := by
 unfold rwsA
 refine List.map_congr_left fun i hi => ?_
 rw [if_pos (List.mem_range.1 hi)]
def RowsA (w : World) (n : Nat) (L : List (List Int)) (e : Ending) (w' : World) : Prop :=
 ∃ rb base, e = .returned (.slice (some ⟨rb, 0, none⟩) n n) ∧ By.OwnG w' rb base 44 3 L ∧ w.heap.size ≤ rb ∧ rb < base ∧ Below w.heap.size w w'
theorem ownG_on {w w' : World} {rb base : Nat} {T E : TypeId} {L : List (List Int)} (h : By.OwnG w rb base T E L) (hb : Below w.heap.size w w') : By.OwnG w' rb base T E L := h.keep fun g _ hg => hb.block g hg
theorem own_neb {w : World} {base k n : Nat} {E : TypeId} {v : Value} {xs : List Value} (h : w.ownsRow base E k v n xs) {g : Nat} {t : TypeId} {cs : Array Value} (hb : Blk w g t cs) (hne : t ≠ E) : some g ≠ v.ownBlock := by
 rcases h.2 with ⟨rfl, _⟩ | ⟨g', cap, cur, rfl, _, hg, _⟩
 ·intro e; cases e
 ·intro e
  have e2 : some g = some g' := e
  injection e2 with e2
  subst e2
  have h3 := hb.symm.trans hg
  injection h3 with h3
  injection h3 with _ h4
  exact hne h4
theorem set_row {n : Nat} {r : Nat → List Int} {a : Nat} (ha : a < n) (X : List Int) : By.rowOf ((rwsA n r a).set a X) a = X := by
 unfold By.rowOf
 rw [List.getD_eq_getElem?_getD, List.getElem?_set, if_pos rfl, if_pos (by rw [rwsA_len]; exact ha)]; rfl
theorem set_nil {n : Nat} {r : Nat → List Int} {a : Nat} (ha : a < n) : (rwsA n r a).set a [] = rwsA n r a := by
 have h3 : By.rowOf (rwsA n r a) a = [] := by rw [rwsA_row ha, if_neg (by omega)]
 have h4 : (rwsA n r a)[a]? = some [] := by
  unfold By.rowOf at h3
  rw [List.getD_eq_getElem?_getD, List.getElem?_eq_getElem (by rw [rwsA_len]; exact ha)] at h3
  rw [List.getElem?_eq_getElem (by rw [rwsA_len]; exact ha)]
  exact congrArg some h3
 exact List.ext_getElem? fun i => by
  rw [List.getElem?_set]
  by_cases h5 : a = i
  ·subst h5; rw [if_pos rfl, if_pos (by rw [rwsA_len]; exact ha), h4]
  ·rw [if_neg h5]
set_option maxRecDepth 100000 in
set_option maxHeartbeats 8000000 in
theorem gatherR_any (w : World) (P : Pgm) (h : PgR w P) (g9 : Nat) (m9 : Int) (hg9 : w.cell? ⟨g9, 0, none⟩ = some (.int .i64 m9)) (As : Option Addr) (ms cm : Nat) (so : List Int) (hso : IL w As ms cm so) (hms : 0 < ms ∧ ms ≤ 1000) (gs os : Nat) (hAs : As = some ⟨gs, os, none⟩) :
  Calls Tryz.prog 88 #[pgV P, .func (.func 129) #[] #[.pointer (some ⟨g9, 0, none⟩)], .slice As ms cm] w (RowsA w P.fn ((List.range P.fn).map fun a => By.tidyRow (gatP P so (tlR m9) a))) := by
 obtain ⟨iNf, hiN, hzN0, hzN1, hzN2⟩ := info_split infoInt
 have hfw := h.few.1
 have hmk := By.make_rows P.fn (by omega)
 have HGF := Hd (fun W (hb : Below w.heap.size w W) a (ha : a < P.fn) => gf_at (h.on hb).fr ha)
 have HGR := Hd (fun W (hb : Below w.heap.size w W) a (ha : a < P.fn) => (h.on hb).fns a ha)
 have HCO := Hd (fun W (hb : Below w.heap.size w W) x => contains_il W As ms cm so x (hso.on hb) hms.1 (by omega) gs os hAs)
 have HCL := Hd (fun W (hb : Below w.heap.size w W) (x : By.In5) r => show Calls Tryz.prog 129 #[inV x, .int .i64 r, .pointer (some ⟨g9, 0, none⟩)] W fun e w' => e = .returned (.tuple #[.int .i64 ((tlR m9) x r).1, .bool ((tlR m9) x r).2]) ∧ Below W.heap.size W w' from ref1_any x r m9 g9 W (cell_on hg9 hb))
 have HTL := Hd (fun a (ha : a < P.fn) => show (gatP P so (tlR m9) a).length ≤ 1000000 from by
  have h1 := tgL_len (P.cs a) (gfAt P.fs a).refs (gfAt P.fs a).R.2.1 so (tlR m9) (gfAt P.fs a).F.code.2.1
  have h2 := ((h.fns a ha).few).1
  unfold gatP; omega)
 have HGP := Hd (show ∀ a, gatP P so (tlR m9) a = tgL (P.cs a) (gfAt P.fs a).refs (gfAt P.fs a).R.2.1 so (tlR m9) (gfAt P.fs a).F.code.2.1 from fun a => rfl)
 have HMAP := Hd (show ((List.range P.fn).map (gatP P so (tlR m9))).map By.tidyRow = (List.range P.fn).map fun a => By.tidyRow (gatP P so (tlR m9) a) from by rw [List.map_map]; rfl)
 rw [← HMAP.out]
 obtain ⟨rw9, hrw⟩ : ∃ x, gatP P so (tlR m9) = x := ⟨_, rfl⟩
 rw [hrw] at HTL HGP ⊢
 generalize (tlR m9) = tl at *
 clear h hrw HMAP hso hms
 subst hAs
 obtain ⟨fA, fn, fc, fs, dA, dn, dc, ds, en, cs⟩ := P
 unfold pgV
 dsimp only at HGF HGR HTL HGP hfw hmk ⊢
 obtain ⟨b0, hb0⟩ : ∃ x : Nat, w.heap.size = x := ⟨_, rfl⟩
 obtain ⟨W0, hW0⟩ : ∃ W0, (w.alloc (.cells #[.slice fA fn fc, .slice dA dn dc, .int .i64 en] 29)).alloc (.cells (Array.replicate fn (.slice none 0 0)) 44) = W0 := ⟨_, rfl⟩
 have HB0 := Hd (show Below w.heap.size w W0 from by rw [← hW0]; exact to_ (alloc_ _ _) (alloc_ _ _))
 have HP0 := Hd (show Blk W0 w.heap.size 29 #[.slice fA fn fc, .slice dA dn dc, .int .i64 en] from by rw [← hW0]; exact (Blk.new _ _ _).alloc _)
 have HO0 := Hd (show By.OwnG W0 (w.heap.size + 1) (w.heap.size + 2) 44 3 (rwsA fn rw9 0) from by
  rw [rwsA_nil]
  refine By.OwnG.start W0 fn _ ?_
  have := Blk.new (w.alloc (.cells #[.slice fA fn fc, .slice dA dn dc, .int .i64 en] 29)) 44 (Array.replicate fn (.slice none 0 0))
  rw [World.size_alloc] at this
  rw [← hW0]; exact this)
 clear hb0
 unfold RowsA
 have c0 : W0.cell? ⟨w.heap.size, 0, none⟩ = some (.slice fA fn fc) := HP0.out.cell 0
 go_enter Tryz.func88, Tryz.ntmps88
 go_wp2_with fail
 clear hW0 c0
 go_loopw [21] (fun i9 wr => ∃ a : Nat, a ≤ fn ∧ i9 = .int .i64 (a : Int) ∧ Hid (By.OwnG wr (w.heap.size + 1) (w.heap.size + 2) 44 3 (rwsA fn rw9 a)) ∧ Hid (Below w.heap.size w wr) ∧ Hid (Blk wr w.heap.size 29 #[.slice fA fn fc, .slice dA dn dc, .int .i64 en])) (fun i9 _ => fn - (intOf i9).toNat)
 case atStart => exact ⟨0, Nat.zero_le _, rfl, HO0, HB0, HP0⟩
 case round =>
  obtain ⟨a, ha, rfl, HOG, HBW, HPB⟩ := hrel
  have c0 : wr.cell? ⟨w.heap.size, 0, none⟩ = some (.slice fA fn fc) := HPB.out.cell 0
  by_cases hlt : a < fn
  ·have haI : (a : Int) < (fn : Int) := by omega
   have ha0 : (0 : Int) ≤ (a : Int) := by omega
   have HLT := Hd hlt
   obtain ⟨ad, rfl, hz9, f0, hfc⟩ := HGF.out wr HBW.out a hlt
   have HGA := Hd (fun W (hb : Below w.heap.size w W) => HGR.out W hb a hlt)
   have HGP9 := Hd (HGP.out a)
   have HLEN := Hd (HTL.out a hlt)
   obtain ⟨g, hg⟩ : ∃ g, gfAt fs a = g := ⟨_, rfl⟩
   rw [hg] at hfc f0 HGA HGP9
   clear hg
   obtain ⟨c9, hc9⟩ : ∃ c, cs a = c := ⟨_, rfl⟩
   rw [hc9] at HGA HGP9
   clear hc9
   obtain ⟨file, item, nm, ⟨cl, ⟨kA, kn, kc⟩, pd, no, fr, tt, ⟨lA, ln, lc⟩, ⟨cA, cn, cc⟩, ⟨rA, rn, rc⟩⟩, ⟨qA, qn, qc⟩, refs⟩ := g
   have f1 := hfc 0 _ rfl
   have f2 := hfc 1 _ rfl
   have f3 := hfc 2 _ rfl
   have f4 := hfc 3 _ rfl
   have f5 := hfc 4 _ rfl
   have f6 := hfc 5 _ rfl
   have f7 := hfc 6 _ rfl
   have f8 := hfc 7 _ rfl
   have f9 := hfc 8 _ rfl
   have f10 := hfc 9 _ rfl
   have f11 := hfc 10 _ rfl
   have f12 := hfc 11 _ rfl
   unfold slV at f4 f9 f10 f11 f12
   dsimp only at HGP9 f0 f1 f2 f3 f4 f5 f6 f7 f8 f9 f10 f11 f12
   have hc80 : cn ≤ 80 := (HGA.out w (Below.refl _ _)).few.1
   clear hfc
   obtain ⟨wz, hwz⟩ : ∃ wz, wz = wr := ⟨_, rfl⟩
   subst hwz
   obtain ⟨FBK, hFB⟩ : ∃ x : Nat, wz.heap.size = x := ⟨_, rfl⟩
   have HFB0 := Hd (show Blk (wz.alloc (.cells #[.int .i64 (file : Int), .int .i64 (item : Int), .string nm, .int .i64 cl, .slice kA kn kc, .int .i64 pd, .bool no, .int .i64 fr, .int .i64 tt, .slice lA ln lc, .slice cA cn cc, .slice rA rn rc, .slice qA qn qc] 51)) FBK 51 #[.int .i64 (file : Int), .int .i64 (item : Int), .string nm, .int .i64 cl, .slice kA kn kc, .int .i64 pd, .bool no, .int .i64 fr, .int .i64 tt, .slice lA ln lc, .slice cA cn cc, .slice rA rn rc, .slice qA qn qc] from by rw [← hFB]; exact Blk.new _ _ _)
   have HFBN := Hd (show w.heap.size + 2 ≤ FBK from by have := HOG.out.lt; omega)
   have HHF := Hd hFB
   clear hFB
   go_wp2_with fail
   obtain ⟨wy, hwy⟩ : ∃ wy, wz.alloc (.cells #[.int .i64 (file : Int), .int .i64 (item : Int), .string nm, .int .i64 cl, .slice kA kn kc, .int .i64 pd, .bool no, .int .i64 fr, .int .i64 tt, .slice lA ln lc, .slice cA cn cc, .slice rA rn rc, .slice qA qn qc] 51) = wy := ⟨_, rfl⟩
   have HBY := Hd (show Below wz.heap.size wz wy from by rw [← hwy]; exact alloc_ _ _)
   rw [hwy] at HFB0
   rw [hwy, HHF.out]
   clear hwy c0 f0 f1 f2 f3 f4 f5 f6 f7 f8 f9 f10 f11 f12 hz9
   have HOY := Hd (show By.OwnG wy (w.heap.size + 1) (w.heap.size + 2) 44 3 ((rwsA fn rw9 a).set a (tgL c9 refs qn so tl 0)) from by
    have h1 := ownG_on HOG.out HBY.out
    have h2 : (rwsA fn rw9 a).set a (tgL c9 refs qn so tl 0) = rwsA fn rw9 a := by
     have h3 : By.rowOf (rwsA fn rw9 a) a = [] := by rw [rwsA_row HLT.out, if_neg (by omega)]
     have h4 : (rwsA fn rw9 a)[a]? = some [] := by
      unfold By.rowOf at h3
      rw [List.getD_eq_getElem?_getD, List.getElem?_eq_getElem (by rw [rwsA_len]; exact HLT.out)] at h3
      rw [List.getElem?_eq_getElem (by rw [rwsA_len]; exact HLT.out)]
      exact congrArg some h3
     exact List.ext_getElem? fun i => by
      rw [List.getElem?_set]
      by_cases h5 : a = i
      ·subst h5; rw [if_pos rfl, if_pos (by rw [rwsA_len]; exact HLT.out), h4]; rfl
      ·rw [if_neg h5]
    rw [h2]; exact h1)
   go_loopw [30] (fun i9 wr => ∃ k : Nat, k ≤ cn ∧ i9 = .int .i64 (k : Int) ∧ Hid (By.OwnG wr (w.heap.size + 1) (w.heap.size + 2) 44 3 ((rwsA fn rw9 a).set a (tgL c9 refs qn so tl k))) ∧ Hid (Below w.heap.size w wr) ∧ Hid (Blk wr w.heap.size 29 #[.slice (some ad) fn fc, .slice dA dn dc, .int .i64 en]) ∧ Hid (Blk wr FBK 51 #[.int .i64 (file : Int), .int .i64 (item : Int), .string nm, .int .i64 cl, .slice kA kn kc, .int .i64 pd, .bool no, .int .i64 fr, .int .i64 tt, .slice lA ln lc, .slice cA cn cc, .slice rA rn rc, .slice qA qn qc])) (fun i9 _ => cn - (intOf i9).toNat)
   case atStart => exact ⟨0, Nat.zero_le _, rfl, HOY, Hd (to_ HBW.out HBY.out), Hd (HPB.out.below HBY.out HPB.out.lt), HFB0⟩
   case round =>
    obtain ⟨k, hk, rfl, HOG, HBW, HPB, HFB⟩ := hrel
    by_cases hkl : k < cn
    ·have hkI : (k : Int) < (cn : Int) := by omega
     have hk0 : (0 : Int) ≤ (k : Int) := by omega
     have HKL := Hd hkl
     obtain ⟨cad, rfl, hz1, z0, z1, z2, z3, z4⟩ := in_at (HGA.out wr HBW.out).code hkl
     have HTS := Hd (tgL_succ c9 refs qn so tl k)
     have htl := tgL_len c9 refs qn so tl k
     have HTG := Hd (show tgO c9 refs qn so tl k = if so.contains (By.inAt c9 k).1 = true then (if (tl (By.inAt c9 k) (rfA refs qn k)).2 = true then [(tl (By.inAt c9 k) (rfA refs qn k)).1] else []) else [] from rfl)
     have HRA := Hd (fun W (hb : Below w.heap.size w W) => refAt_any W qA qn qc refs (HGA.out W hb).refs k)
     have HCL := Hd (fun W hb => HCL.out W hb (By.inAt c9 k))
     unfold inV at HCL
     obtain ⟨⟨op, ia, ib, ic, iN⟩, hx⟩ : ∃ x, By.inAt c9 k = x := ⟨_, rfl⟩
     rw [hx] at z0 z1 z2 z3 z4 HTG HCL
     dsimp only at z0 z1 z2 z3 z4 HTG HCL
     obtain ⟨rf9, hrf⟩ : ∃ x, rfA refs qn k = x := ⟨_, rfl⟩
     rw [hrf] at HTG HRA
     have HCL := Hd (fun W hb => HCL.out W hb rf9)
     obtain ⟨⟨tn, tb⟩, ht9⟩ : ∃ x, tl (op, ia, ib, ic, iN) rf9 = x := ⟨_, rfl⟩
     rw [ht9] at HTG HCL
     dsimp only at HTG HCL
     clear hx hrf ht9
     have HCT := Hd (fun W (hb : Below w.heap.size w W) => HCO.out W hb op)
     obtain ⟨bc, hbc⟩ : ∃ b, so.contains op = b := ⟨_, rfl⟩
     rw [hbc] at HTG HCT
     clear hbc
     obtain ⟨IBK, hIB⟩ : ∃ x : Nat, wr.heap.size = x := ⟨_, rfl⟩
     obtain ⟨wI, hwI⟩ : ∃ x, wr.alloc (.cells #[.int .i64 op, .int .i64 ia, .int .i64 ib, .int .i64 ic, .int .i64 iN] 53) = x := ⟨_, rfl⟩
     have hbI : Below wr.heap.size wr wI := by rw [← hwI]; exact alloc_ _ _
     have HIB := Hd (show Blk wI IBK 53 #[.int .i64 op, .int .i64 ia, .int .i64 ib, .int .i64 ic, .int .i64 iN] from by rw [← hwI, ← hIB]; exact Blk.new _ _ _)
     have HWI := Hd (to_ HBW.out hbI)
     have HBI := Hd hbI
     have HHI := Hd hIB
     have HFBI := Hd (HFB.out.below hbI HFB.out.lt)
     have HPBI := Hd (HPB.out.below hbI HPB.out.lt)
     have HOGI := Hd (ownG_on HOG.out hbI)
     have HEQ := Hd hwI
     clear hbI hIB hwI
     cases bc with
     | false =>
      have HR := Hd (show tgL c9 refs qn so tl (k + 1) = tgL c9 refs qn so tl k from by rw [HTS.out, HTG.out]; simp)
      go_wp2_with (go_at_call 110; rw [HEQ.out]; refine (HCT.out _ HWI.out).mono ?_; rintro e w2 ⟨rfl, rfl⟩)
      go_roundw
      case rel => exact ⟨k + 1, by have := HKL.out; omega, by go_num, Hd (by rw [HR.out]; exact HOGI.out), HWI, HPBI, HFBI⟩
      case measure => have := HKL.out; simp [intOf]; omega
     | true =>
      go_wp2_with (go_at_call 110; rw [HEQ.out]; refine (HCT.out _ HWI.out).mono ?_; rintro e w2 ⟨rfl, rfl⟩)
      rw [HHI.out]
      have i0 := HIB.out.cell 0
      have i1 := HIB.out.cell 1
      have i2 := HIB.out.cell 2
      have i3 := HIB.out.cell 3
      have i4 := HIB.out.cell 4
      have x12 := HFBI.out.cell 12
      refine wp_region_noPanic ?_
      refine wp_region_held_drew (S := fun W => W.cell? ⟨IBK, 0, none⟩ = some (.int .i64 op) ∧ W.cell? ⟨IBK, 1, none⟩ = some (.int .i64 ia) ∧ W.cell? ⟨IBK, 2, none⟩ = some (.int .i64 ib) ∧ W.cell? ⟨IBK, 3, none⟩ = some (.int .i64 ic) ∧ W.cell? ⟨IBK, 4, none⟩ = some (.int .i64 iN) ∧ W.cell? ⟨FBK, 12, none⟩ = some (.slice qA qn qc)) (by kernel_rfl) (⟨i0, i1, i2, i3, i4, x12⟩) (fun hHeld => ?_)
      refine tk5Z 0 1 2 3 4 hHeld ?_
      refine rd1Z 5 (fun K hK => ?_)
      go_simp
      refine (HRA.out _ HWI.out.drew).mono ?_
      rintro e w3 ⟨rfl, rfl⟩
      try go_wp2_with fail
      refine hK.out _ _ (hHeld) ?_
      clear hK K hHeld
      intro hHeld
      try simp only [Act.put, nmZ]
      refine rd1Z 6 (fun K hK => ?_)
      go_simp
      refine (HCL.out _ HWI.out.drew).mono ?_
      rintro e w3 ⟨rfl, b3⟩
      have HB3 := Hd b3
      clear b3
      try go_wp2_with fail
      refine hK.out _ _ ((on6Z hHeld HB3.out)) ?_
      clear hK K hHeld
      intro hHeld
      try simp only [Act.put, nmZ]
      refine tk5Z 7 8 9 10 11 hHeld ?_
      refine wpAnyH_done (by kernel_rfl) ?_ _
      refine NoPanic.normal ?_
      cases tb with
      | false =>
       have HB23 := Hd (to_ (Below.refl w2.heap.size w2).drew HB3.out)
       have HR := Hd (show tgL c9 refs qn so tl (k + 1) = tgL c9 refs qn so tl k from by rw [HTS.out, HTG.out]; simp)
       go_wp2_with fail
       go_roundw
       case rel => exact ⟨k + 1, by have := HKL.out; omega, by go_num, Hd (by rw [HR.out]; exact ownG_on HOGI.out HB23.out), Hd (to_ HWI.out HB23.out), Hd (HPBI.out.below HB23.out HPBI.out.lt), Hd (HFBI.out.below HB23.out HFBI.out.lt)⟩
       case measure => have := HKL.out; simp [intOf]; omega
      | true =>
       have HB23 := Hd (to_ (Below.refl w2.heap.size w2).drew HB3.out)
       have HNX := Hd (show tgL c9 refs qn so tl (k + 1) = tgL c9 refs qn so tl k ++ [tn] from by rw [HTS.out, HTG.out]; simp)
       obtain ⟨XL, hXL⟩ : ∃ x, tgL c9 refs qn so tl k = x := ⟨_, rfl⟩
       rw [hXL] at htl HNX
       have HO3 := ownG_on HOGI.out HB23.out
       rw [hXL] at HO3
       clear hXL HTG HTS
       have HB03 := Hd (to_ HWI.out HB23.out)
       have HFB3 := Hd (HFBI.out.below HB23.out HFBI.out.lt)
       have HPB3 := Hd (HPBI.out.below HB23.out HPBI.out.lt)
       obtain ⟨rv, hcell, hfr, hone, hrow, ⟨RA, RC, hrv⟩, hput⟩ := HO3.at_ (by omega) (a := a) (by rw [List.length_set, rwsA_len]; exact HLT.out)
       rw [set_row HLT.out] at hrow hrv
       have HP := Hd hput
       have hlt3 := HO3.lt
       have hownA := By.own_keep (w' := w3.alloc (.cells #[.int .i64 tn] 3)) hrow (fun k _ hk _ => Below.heap_alloc _ _ _ hk)
       have hnewA : (w3.alloc (.cells #[.int .i64 tn] 3)).cell? ⟨w3.heap.size, 0, none⟩ = some (.int .i64 tn) := by
        have := (Blk.new w3 3 #[.int .i64 tn]).cell 0
        exact this
       have hrbA : (w3.alloc (.cells #[.int .i64 tn] 3)).cell? ⟨w.heap.size + 1, a, none⟩ = some rv := by
        rw [World.cell?_alloc_lt _ _ _ (by show w.heap.size + 1 < w3.heap.size; omega)]; exact hcell
       have hfrA : (w3.alloc (.cells #[.int .i64 tn] 3)).frozen? ⟨w.heap.size + 1, a, none⟩ = false := by
        rw [World.frozen?_alloc_past _ _ _ (by show w.heap.size + 1 < w3.heap.size; omega)]; exact hfr
       have HRB := Hd (show some (w.heap.size + 1) ≠ rv.ownBlock from fun e => by have := (hrow.lt _ e.symm).1; omega)
       have HRP := Hd (show some w.heap.size ≠ rv.ownBlock from fun e => by have := (hrow.lt _ e.symm).1; omega)
       have HRF := Hd (own_neb hrow HFB3.out (by decide))
       have HBS := Hd (show ∀ r, rv.ownBlock = some r → w.heap.size + 2 ≤ r from fun r e => (hrow.lt r e).1)
       have HL1 : XL.length + 1 ≤ maxLen := by unfold maxLen; omega
       have HL2 : (XL.length + 1) * 8 ≤ 140737488355328 := by omega
       have HEnd := Hd (show ∀ (g' cap' : Nat) (w' : World), w'.ownsRow (w.heap.size + 2) 3 1 (.slice (some ⟨g', 0, none⟩) (XL.length + 1) cap') (XL.length + 1) (By.ints XL ++ [.int .i64 tn]) →
         (w3.alloc (.cells #[.int .i64 tn] 3)).grownBy w' rv.ownBlock →
         ((Value.slice (some ⟨g', 0, none⟩) (XL.length + 1) cap').ownBlock = rv.ownBlock ∨ (Value.slice (some ⟨g', 0, none⟩) (XL.length + 1) cap').ownBlock = some (w3.alloc (.cells #[.int .i64 tn] 3)).heap.size) →
         By.OwnG (w'.setCell ⟨w.heap.size + 1, a, none⟩ (.slice (some ⟨g', 0, none⟩) (XL.length + 1) cap')) (w.heap.size + 1) (w.heap.size + 2) 44 3 ((rwsA fn rw9 a).set a (XL ++ [tn])) ∧
         Below w.heap.size w (w'.setCell ⟨w.heap.size + 1, a, none⟩ (.slice (some ⟨g', 0, none⟩) (XL.length + 1) cap')) ∧
         Blk (w'.setCell ⟨w.heap.size + 1, a, none⟩ (.slice (some ⟨g', 0, none⟩) (XL.length + 1) cap')) w.heap.size 29 #[.slice (some ad) fn fc, .slice dA dn dc, .int .i64 en] ∧
         Blk (w'.setCell ⟨w.heap.size + 1, a, none⟩ (.slice (some ⟨g', 0, none⟩) (XL.length + 1) cap')) FBK 51 #[.int .i64 (file : Int), .int .i64 (item : Int), .string nm, .int .i64 cl, .slice kA kn kc, .int .i64 pd, .bool no, .int .i64 fr, .int .i64 tt, .slice lA ln lc, .slice (some cad) cn cc, .slice rA rn rc, .slice qA qn qc] from by
        intro g' cap' w' h2 h3 h4
        refine ⟨?_, ?_, ?_, ?_⟩
        ·have h5 := HP.out (.slice (some ⟨g', 0, none⟩) (XL.length + 1) cap') (XL ++ [tn]) w' rfl (by simpa [By.ints] using h2)
          (by
           rcases h4 with h4 | h4
           ·exact .inr (.inl h4)
           ·exact .inr (.inr ⟨_, h4, by simp⟩))
          (fun k hk hlt hne => (h3.block k (by simp; omega) (fun e => hne e.symm)).trans (Below.heap_alloc _ _ _ hlt))
         rwa [List.set_set] at h5
        ·refine (HB03.out.trans ?_).setCell (p := ⟨w.heap.size + 1, a, none⟩) (by show w.heap.size ≤ w.heap.size + 1; omega) _
         exact ((Below.refl w.heap.size w3).alloc (by have := HB03.out.size; omega) _).grown h3 (by simp; omega) fun r e => by have := HBS.out r e; omega
        ·have h6 := HPB3.out.alloc (.cells #[.int .i64 tn] 3)
         exact ((heap_setCell_other _ _ _ _ (by show w.heap.size ≠ w.heap.size + 1; omega)).trans (h3.block _ h6.lt HRP.out)).trans h6
        ·have h6 := HFB3.out.alloc (.cells #[.int .i64 tn] 3)
         exact ((heap_setCell_other _ _ _ _ (by show FBK ≠ w.heap.size + 1; have := HFBN.out; omega)).trans (h3.block _ h6.lt HRF.out)).trans h6)
       rw [← HNX.out] at HEnd
       subst hrv
       clear hput hrow hone HO3
       have HNEW := Hd (show ∀ j u, [Value.int .i64 tn][j]? = some u → (w3.alloc (.cells #[.int .i64 tn] 3)).cell? ((⟨w3.heap.size, 0, none⟩ : Addr).add j) = some u from fun j u hj => by
        rcases j with _ | j
        ·injection hj with hj; subst hj; exact hnewA
        ·cases hj)
       go_wp2_with (at_builtin; go_loud (refine wpList_append_own_at _ rfl _ _ 44 rfl (w.heap.size + 2) 3 iNf (.int .i64 0) 1 8 Tryz.underlying44 hiN hzN0 hzN1 hzN2 rfl (by omega) _ _ _ rfl hownA ⟨w3.heap.size, 0, none⟩ 1 1 [.int .i64 tn] rfl rfl HNEW.out (by simp [Value.oneCell']) HL1 HL2 (by simp; omega) ?_); intro v' w' h2 h3 _ h4; obtain ⟨g', cap', hv'⟩ := ownsRow_succ h2; subst hv'; have hrb' := h3.cell hrbA HRB.out; have hfr' : w'.frozen? ⟨w.heap.size + 1, a, none⟩ = false := (World.frozen?_of_block (h3.block (w.heap.size + 1) (World.block_lt_of_cell? _ _ hrbA) HRB.out)).trans hfrA; have h5 := HEnd.out _ _ _ h2 h3 h4; have H51 := Hd h5.1; have H52 := Hd h5.2.1; have H53 := Hd h5.2.2.1; have H54 := Hd h5.2.2.2; clear h2 h3 h4 h5 hownA hnewA hrbA hfrA hcell hfr)
       go_roundw
       case rel => exact ⟨k + 1, by have := HKL.out; omega, by go_num, H51, H52, H53, H54⟩
       case measure => have := HKL.out; simp [intOf]; omega
    ·obtain rfl : cn = k := by omega
     have HO9 := Hd (show By.OwnG wr (w.heap.size + 1) (w.heap.size + 2) 44 3 (rwsA fn rw9 (a + 1)) from by
      have h1 := HOG.out
      rw [← HGP9.out, rwsA_set HLT.out] at h1; exact h1)
     go_wp2_with fail
     go_roundw
     case rel => exact ⟨a + 1, by have := HLT.out; omega, by go_num, HO9, HBW, HPB⟩
     case measure => have := HLT.out; simp [intOf]; omega
  ·obtain rfl : fn = a := by omega
   have hct := By.ctidy_any wr (w.heap.size + 1) (w.heap.size + 2) (rwsA fn rw9 fn) HOG.out (by omega) (by rw [rwsA_len]; omega) (fun i => by
    by_cases hi : i < fn
    ·rw [rwsA_row hi, if_pos hi]; exact HTL.out i hi
    ·unfold By.rowOf
     rw [List.getD_eq_getElem?_getD, List.getElem?_eq_none (by rw [rwsA_len]; omega)]; simp)
   rw [rwsA_len, rwsA_all] at hct
   have HCT := Hd hct
   have HLW := Hd HOG.out.lt
   clear hct
   go_wp2_with (go_at_call 127; refine HCT.out.mono ?_; rintro e w2 ⟨rfl, hO2, hK2⟩; have HO2 := Hd hO2; have HK2 := Hd hK2; clear hO2 hK2)
   go_ret
   exact ⟨_, _, rfl, HO2.out, by omega, by omega, HBW.out.trans (HK2.out.below HBW.out.size (fun k hk => by omega))⟩
def tbO (rs : List Int) (nR : Nat) (m : Int) (j : Nat) : List Int := if oneB (rfA rs nR j) m = true then [rfA rs nR j] else []
def tbL (rs : List Int) (nR : Nat) (m : Int) (k : Nat) : List Int := (List.range k).flatMap (tbO rs nR m)
theorem tbL_succ (rs : List Int) (nR : Nat) (m : Int) (k : Nat) : tbL rs nR m (k + 1) = tbL rs nR m k ++ tbO rs nR m k := by
 unfold tbL; rw [List.range_succ, List.flatMap_append]; simp
theorem tbL_len (rs : List Int) (nR : Nat) (m : Int) : ∀ k, (tbL rs nR m k).length ≤ k
 | 0 => by simp [tbL]
 | k + 1 => by
  have h := tbL_len rs nR m k
  rw [tbL_succ, List.length_append]
  unfold tbO
  split
  ·simp; omega
  ·simp; omega
def tabP (P : Pgm) (a : Nat) : List Int := tbL (gdAt P.ds a).refs (gdAt P.ds a).R.2.1 (P.fn : Int) (gdAt P.ds a).D.words.2.1
set_option maxRecDepth 100000 in
set_option maxHeartbeats 8000000 in
theorem tables_any (w : World) (P : Pgm) (h : PgR w P) : Calls Tryz.prog 91 #[pgV P] w (RowsA w P.dn ((List.range P.dn).map fun a => By.tidyRow (tabP P a))) := by
 obtain ⟨iNf, hiN, hzN0, hzN1, hzN2⟩ := info_split infoInt
 have hfw := h.few
 have hmk := By.make_rows P.dn (by omega)
 have HGF := Hd (fun W (hb : Below w.heap.size w W) a (ha : a < P.dn) => gd_at (h.on hb).dr ha)
 have HGR := Hd (fun W (hb : Below w.heap.size w W) a (ha : a < P.dn) => (h.on hb).dats a ha)
 have HTL := Hd (fun a (ha : a < P.dn) => show (tabP P a).length ≤ 1000000 from by
  have h1 := tbL_len (gdAt P.ds a).refs (gdAt P.ds a).R.2.1 (P.fn : Int) (gdAt P.ds a).D.words.2.1
  have h2 := ((h.dats a ha).few).1
  unfold tabP; omega)
 have HGP := Hd (show ∀ a, tabP P a = tbL (gdAt P.ds a).refs (gdAt P.ds a).R.2.1 (P.fn : Int) (gdAt P.ds a).D.words.2.1 from fun a => rfl)
 have HMAP := Hd (show ((List.range P.dn).map (tabP P)).map By.tidyRow = (List.range P.dn).map fun a => By.tidyRow (tabP P a) from by rw [List.map_map]; rfl)
 rw [← HMAP.out]
 obtain ⟨rw9, hrw⟩ : ∃ x, tabP P = x := ⟨_, rfl⟩
 rw [hrw] at HTL HGP ⊢
 clear h hrw HMAP
 obtain ⟨fA, fn, fc, fs, dA, dn, dc, ds, en, cs⟩ := P
 unfold pgV
 dsimp only at HGF HGR HTL HGP hfw hmk ⊢
 obtain ⟨hfw0, hfw⟩ := hfw
 obtain ⟨b0, hb0⟩ : ∃ x : Nat, w.heap.size = x := ⟨_, rfl⟩
 obtain ⟨W0, hW0⟩ : ∃ W0, (w.alloc (.cells #[.slice fA fn fc, .slice dA dn dc, .int .i64 en] 29)).alloc (.cells (Array.replicate dn (.slice none 0 0)) 44) = W0 := ⟨_, rfl⟩
 have HB0 := Hd (show Below w.heap.size w W0 from by rw [← hW0]; exact to_ (alloc_ _ _) (alloc_ _ _))
 have HP0 := Hd (show Blk W0 w.heap.size 29 #[.slice fA fn fc, .slice dA dn dc, .int .i64 en] from by rw [← hW0]; exact (Blk.new _ _ _).alloc _)
 have HO0 := Hd (show By.OwnG W0 (w.heap.size + 1) (w.heap.size + 2) 44 3 (rwsA dn rw9 0) from by
  rw [rwsA_nil]
  refine By.OwnG.start W0 dn _ ?_
  have := Blk.new (w.alloc (.cells #[.slice fA fn fc, .slice dA dn dc, .int .i64 en] 29)) 44 (Array.replicate dn (.slice none 0 0))
  rw [World.size_alloc] at this
  rw [← hW0]; exact this)
 clear hb0
 unfold RowsA
 have c1 : W0.cell? ⟨w.heap.size, 1, none⟩ = some (.slice dA dn dc) := HP0.out.cell 1
 go_enter Tryz.func91, Tryz.ntmps91
 go_wp2_with fail
 clear hW0 c1
 go_loopw [15] (fun i9 wr => ∃ a : Nat, a ≤ dn ∧ i9 = .int .i64 (a : Int) ∧ Hid (By.OwnG wr (w.heap.size + 1) (w.heap.size + 2) 44 3 (rwsA dn rw9 a)) ∧ Hid (Below w.heap.size w wr) ∧ Hid (Blk wr w.heap.size 29 #[.slice fA fn fc, .slice dA dn dc, .int .i64 en])) (fun i9 _ => dn - (intOf i9).toNat)
 case atStart => exact ⟨0, Nat.zero_le _, rfl, HO0, HB0, HP0⟩
 case round =>
  obtain ⟨a, ha, rfl, HOG, HBW, HPB⟩ := hrel
  by_cases hlt : a < dn
  ·have haI : (a : Int) < (dn : Int) := by omega
   have ha0 : (0 : Int) ≤ (a : Int) := by omega
   have HLT := Hd hlt
   obtain ⟨ad, rfl, hz9, f0, hfc⟩ := HGF.out wr HBW.out a hlt
   have HGA := Hd (fun W (hb : Below w.heap.size w W) => HGR.out W hb a hlt)
   have HGP9 := Hd (HGP.out a)
   have HLEN := Hd (HTL.out a hlt)
   obtain ⟨g, hg⟩ : ∃ g, gdAt ds a = g := ⟨_, rfl⟩
   rw [hg] at hfc f0 HGA HGP9
   clear hg
   obtain ⟨file, item, nm, ⟨kd, ⟨kA, kn, kc⟩, ⟨rA, rn, rc⟩⟩, ⟨qA, qn, qc⟩, refs⟩ := g
   have f1 := hfc 0 _ rfl
   have f2 := hfc 1 _ rfl
   have f3 := hfc 2 _ rfl
   have f4 := hfc 3 _ rfl
   have f5 := hfc 4 _ rfl
   have f6 := hfc 5 _ rfl
   unfold slV at f4 f5 f6
   dsimp only at HGP9 f0 f1 f2 f3 f4 f5 f6
   have hc80 : kn ≤ 80 := (HGA.out w (Below.refl _ _)).few.1
   clear hfc
   obtain ⟨wz, hwz⟩ : ∃ wz, wz = wr := ⟨_, rfl⟩
   subst hwz
   obtain ⟨FBK, hFB⟩ : ∃ x : Nat, wz.heap.size = x := ⟨_, rfl⟩
   have HFB0 := Hd (show Blk (wz.alloc (.cells #[.int .i64 (file : Int), .int .i64 (item : Int), .string nm, .int .i64 kd, .slice kA kn kc, .slice rA rn rc, .slice qA qn qc] 86)) FBK 86 #[.int .i64 (file : Int), .int .i64 (item : Int), .string nm, .int .i64 kd, .slice kA kn kc, .slice rA rn rc, .slice qA qn qc] from by rw [← hFB]; exact Blk.new _ _ _)
   have HFBN := Hd (show w.heap.size + 2 ≤ FBK from by have := HOG.out.lt; omega)
   have HHF := Hd hFB
   clear hFB
   go_wp2_with fail
   obtain ⟨wy, hwy⟩ : ∃ wy, wz.alloc (.cells #[.int .i64 (file : Int), .int .i64 (item : Int), .string nm, .int .i64 kd, .slice kA kn kc, .slice rA rn rc, .slice qA qn qc] 86) = wy := ⟨_, rfl⟩
   have HBY := Hd (show Below wz.heap.size wz wy from by rw [← hwy]; exact alloc_ _ _)
   rw [hwy] at HFB0
   rw [hwy, HHF.out]
   clear hwy f0 f1 f2 f3 f4 f5 f6 hz9
   have HOY := Hd (show By.OwnG wy (w.heap.size + 1) (w.heap.size + 2) 44 3 ((rwsA dn rw9 a).set a (tbL refs qn (fn : Int) 0)) from by
    have h1 := ownG_on HOG.out HBY.out
    have h2 : (rwsA dn rw9 a).set a (tbL refs qn (fn : Int) 0) = rwsA dn rw9 a := set_nil HLT.out
    rw [h2]; exact h1)
   go_loopw [24] (fun i9 wr => ∃ k : Nat, k ≤ kn ∧ i9 = .int .i64 (k : Int) ∧ Hid (By.OwnG wr (w.heap.size + 1) (w.heap.size + 2) 44 3 ((rwsA dn rw9 a).set a (tbL refs qn (fn : Int) k))) ∧ Hid (Below w.heap.size w wr) ∧ Hid (Blk wr w.heap.size 29 #[.slice fA fn fc, .slice (some ad) dn dc, .int .i64 en]) ∧ Hid (Blk wr FBK 86 #[.int .i64 (file : Int), .int .i64 (item : Int), .string nm, .int .i64 kd, .slice kA kn kc, .slice rA rn rc, .slice qA qn qc])) (fun i9 _ => kn - (intOf i9).toNat)
   case atStart => exact ⟨0, Nat.zero_le _, rfl, HOY, Hd (to_ HBW.out HBY.out), Hd (HPB.out.below HBY.out HPB.out.lt), HFB0⟩
   case round =>
    obtain ⟨k, hk, rfl, HOG, HBW, HPB, HFB⟩ := hrel
    by_cases hkl : k < kn
    ·have hkI : (k : Int) < (kn : Int) := by omega
     have hk0 : (0 : Int) ≤ (k : Int) := by omega
     have HKL := Hd hkl
     have HTS := Hd (tbL_succ refs qn (fn : Int) k)
     have htl := tbL_len refs qn (fn : Int) k
     have HTG := Hd (show tbO refs qn (fn : Int) k = if oneB (rfA refs qn k) fn = true then [rfA refs qn k] else [] from rfl)
     have HRA := Hd (refAt_any wr qA qn qc refs (HGA.out wr HBW.out).refs k)
     have HIO := Hd (isOne_any (rfA refs qn k) (fn : Int) wr)
     obtain ⟨rf9, hrf⟩ : ∃ x, rfA refs qn k = x := ⟨_, rfl⟩
     rw [hrf] at HTG HRA HIO
     obtain ⟨bc, hbc⟩ : ∃ b, oneB rf9 (fn : Int) = b := ⟨_, rfl⟩
     rw [hbc] at HTG HIO
     clear hrf hbc
     have x6 := HFB.out.cell 6
     have c0 := HPB.out.cell 0
     obtain ⟨w3, hw3⟩ : ∃ x, x = wr := ⟨_, rfl⟩
     subst hw3
     cases bc with
     | false =>
      have HR := Hd (show tbL refs qn (fn : Int) (k + 1) = tbL refs qn (fn : Int) k from by rw [HTS.out, HTG.out]; simp)
      go_wp2_with (first
       | (go_at_call 128; refine HRA.out.mono ?_; rintro e w2 ⟨rfl, e2⟩; obtain rfl := e2.symm)
       | (go_at_call 96; refine HIO.out.mono ?_; rintro e w2 ⟨rfl, e2⟩; obtain rfl := e2.symm))
      go_roundw
      case rel => exact ⟨k + 1, by have := HKL.out; omega, by go_num, Hd (by rw [HR.out]; exact HOG.out), HBW, HPB, HFB⟩
      case measure => have := HKL.out; simp [intOf]; omega
     | true =>
      have HNX := Hd (show tbL refs qn (fn : Int) (k + 1) = tbL refs qn (fn : Int) k ++ [rf9] from by rw [HTS.out, HTG.out]; simp)
      obtain ⟨XL, hXL⟩ : ∃ x, tbL refs qn (fn : Int) k = x := ⟨_, rfl⟩
      rw [hXL] at htl HNX
      have HO3 := HOG.out
      rw [hXL] at HO3
      clear hXL HTG HTS
      obtain ⟨rv, hcell, hfr, hone, hrow, ⟨RA, RC, hrv⟩, hput⟩ := HO3.at_ (by omega) (a := a) (by rw [List.length_set, rwsA_len]; exact HLT.out)
      rw [set_row HLT.out] at hrow hrv
      have HP := Hd hput
      have hlt3 := HO3.lt
      have hownA := By.own_keep (w' := w3.alloc (.cells #[.int .i64 rf9] 3)) hrow (fun k _ hk _ => Below.heap_alloc _ _ _ hk)
      have hnewA : (w3.alloc (.cells #[.int .i64 rf9] 3)).cell? ⟨w3.heap.size, 0, none⟩ = some (.int .i64 rf9) := by
       have := (Blk.new w3 3 #[.int .i64 rf9]).cell 0
       exact this
      have hrbA : (w3.alloc (.cells #[.int .i64 rf9] 3)).cell? ⟨w.heap.size + 1, a, none⟩ = some rv := by
       rw [World.cell?_alloc_lt _ _ _ (by show w.heap.size + 1 < w3.heap.size; omega)]; exact hcell
      have hfrA : (w3.alloc (.cells #[.int .i64 rf9] 3)).frozen? ⟨w.heap.size + 1, a, none⟩ = false := by
       rw [World.frozen?_alloc_past _ _ _ (by show w.heap.size + 1 < w3.heap.size; omega)]; exact hfr
      have HRB := Hd (show some (w.heap.size + 1) ≠ rv.ownBlock from fun e => by have := (hrow.lt _ e.symm).1; omega)
      have HRP := Hd (show some w.heap.size ≠ rv.ownBlock from fun e => by have := (hrow.lt _ e.symm).1; omega)
      have HRF := Hd (own_neb hrow HFB.out (by decide))
      have HBS := Hd (show ∀ r, rv.ownBlock = some r → w.heap.size + 2 ≤ r from fun r e => (hrow.lt r e).1)
      have HL1 : XL.length + 1 ≤ maxLen := by unfold maxLen; omega
      have HL2 : (XL.length + 1) * 8 ≤ 140737488355328 := by omega
      have HEnd := Hd (show ∀ (g' cap' : Nat) (w' : World), w'.ownsRow (w.heap.size + 2) 3 1 (.slice (some ⟨g', 0, none⟩) (XL.length + 1) cap') (XL.length + 1) (By.ints XL ++ [.int .i64 rf9]) →
        (w3.alloc (.cells #[.int .i64 rf9] 3)).grownBy w' rv.ownBlock →
        ((Value.slice (some ⟨g', 0, none⟩) (XL.length + 1) cap').ownBlock = rv.ownBlock ∨ (Value.slice (some ⟨g', 0, none⟩) (XL.length + 1) cap').ownBlock = some (w3.alloc (.cells #[.int .i64 rf9] 3)).heap.size) →
        By.OwnG (w'.setCell ⟨w.heap.size + 1, a, none⟩ (.slice (some ⟨g', 0, none⟩) (XL.length + 1) cap')) (w.heap.size + 1) (w.heap.size + 2) 44 3 ((rwsA dn rw9 a).set a (XL ++ [rf9])) ∧
        Below w.heap.size w (w'.setCell ⟨w.heap.size + 1, a, none⟩ (.slice (some ⟨g', 0, none⟩) (XL.length + 1) cap')) ∧
        Blk (w'.setCell ⟨w.heap.size + 1, a, none⟩ (.slice (some ⟨g', 0, none⟩) (XL.length + 1) cap')) w.heap.size 29 #[.slice fA fn fc, .slice (some ad) dn dc, .int .i64 en] ∧
        Blk (w'.setCell ⟨w.heap.size + 1, a, none⟩ (.slice (some ⟨g', 0, none⟩) (XL.length + 1) cap')) FBK 86 #[.int .i64 (file : Int), .int .i64 (item : Int), .string nm, .int .i64 kd, .slice kA kn kc, .slice rA rn rc, .slice qA qn qc] from by
       intro g' cap' w' h2 h3 h4
       refine ⟨?_, ?_, ?_, ?_⟩
       ·have h5 := HP.out (.slice (some ⟨g', 0, none⟩) (XL.length + 1) cap') (XL ++ [rf9]) w' rfl (by simpa [By.ints] using h2)
         (by
          rcases h4 with h4 | h4
          ·exact .inr (.inl h4)
          ·exact .inr (.inr ⟨_, h4, by simp⟩))
         (fun k hk hlt hne => (h3.block k (by simp; omega) (fun e => hne e.symm)).trans (Below.heap_alloc _ _ _ hlt))
        rwa [List.set_set] at h5
       ·refine (HBW.out.trans ?_).setCell (p := ⟨w.heap.size + 1, a, none⟩) (by show w.heap.size ≤ w.heap.size + 1; omega) _
        exact ((Below.refl w.heap.size w3).alloc (by have := HBW.out.size; omega) _).grown h3 (by simp; omega) fun r e => by have := HBS.out r e; omega
       ·have h6 := HPB.out.alloc (.cells #[.int .i64 rf9] 3)
        exact ((heap_setCell_other _ _ _ _ (by show w.heap.size ≠ w.heap.size + 1; omega)).trans (h3.block _ h6.lt HRP.out)).trans h6
       ·have h6 := HFB.out.alloc (.cells #[.int .i64 rf9] 3)
        exact ((heap_setCell_other _ _ _ _ (by show FBK ≠ w.heap.size + 1; have := HFBN.out; omega)).trans (h3.block _ h6.lt HRF.out)).trans h6)
      rw [← HNX.out] at HEnd
      subst hrv
      clear hput hrow hone HO3
      have HNEW := Hd (show ∀ j u, [Value.int .i64 rf9][j]? = some u → (w3.alloc (.cells #[.int .i64 rf9] 3)).cell? ((⟨w3.heap.size, 0, none⟩ : Addr).add j) = some u from fun j u hj => by
       rcases j with _ | j
       ·injection hj with hj; subst hj; exact hnewA
       ·cases hj)
      go_wp2_with (first
       | (go_at_call 128; refine HRA.out.mono ?_; rintro e w2 ⟨rfl, e2⟩; obtain rfl := e2.symm)
       | (go_at_call 96; refine HIO.out.mono ?_; rintro e w2 ⟨rfl, e2⟩; obtain rfl := e2.symm)
       | (at_builtin; go_loud (refine wpList_append_own_at _ rfl _ _ 44 rfl (w.heap.size + 2) 3 iNf (.int .i64 0) 1 8 Tryz.underlying44 hiN hzN0 hzN1 hzN2 rfl (by omega) _ _ _ rfl hownA ⟨w3.heap.size, 0, none⟩ 1 1 [.int .i64 rf9] rfl rfl HNEW.out (by simp [Value.oneCell']) HL1 HL2 (by simp; omega) ?_); intro v' w' h2 h3 _ h4; obtain ⟨g', cap', hv'⟩ := ownsRow_succ h2; subst hv'; have hrb' := h3.cell hrbA HRB.out; have hfr' : w'.frozen? ⟨w.heap.size + 1, a, none⟩ = false := (World.frozen?_of_block (h3.block (w.heap.size + 1) (World.block_lt_of_cell? _ _ hrbA) HRB.out)).trans hfrA; have h5 := HEnd.out _ _ _ h2 h3 h4; have H51 := Hd h5.1; have H52 := Hd h5.2.1; have H53 := Hd h5.2.2.1; have H54 := Hd h5.2.2.2; clear h2 h3 h4 h5 hownA hnewA hrbA hfrA hcell hfr))
      go_roundw
      case rel => exact ⟨k + 1, by have := HKL.out; omega, by go_num, H51, H52, H53, H54⟩
      case measure => have := HKL.out; simp [intOf]; omega
    ·obtain rfl : kn = k := by omega
     have HO9 := Hd (show By.OwnG wr (w.heap.size + 1) (w.heap.size + 2) 44 3 (rwsA dn rw9 (a + 1)) from by
      have h1 := HOG.out
      rw [← HGP9.out, rwsA_set HLT.out] at h1; exact h1)
     go_wp2_with fail
     go_roundw
     case rel => exact ⟨a + 1, by have := HLT.out; omega, by go_num, HO9, HBW, HPB⟩
     case measure => have := HLT.out; simp [intOf]; omega
  ·obtain rfl : dn = a := by omega
   have hct := By.ctidy_any wr (w.heap.size + 1) (w.heap.size + 2) (rwsA dn rw9 dn) HOG.out (by omega) (by rw [rwsA_len]; omega) (fun i => by
    by_cases hi : i < dn
    ·rw [rwsA_row hi, if_pos hi]; exact HTL.out i hi
    ·unfold By.rowOf
     rw [List.getD_eq_getElem?_getD, List.getElem?_eq_none (by rw [rwsA_len]; omega)]; simp)
   rw [rwsA_len, rwsA_all] at hct
   have HCT := Hd hct
   have HLW := Hd HOG.out.lt
   clear hct
   go_wp2_with (go_at_call 127; refine HCT.out.mono ?_; rintro e w2 ⟨rfl, hO2, hK2⟩; have HO2 := Hd hO2; have HK2 := Hd hK2; clear hO2 hK2)
   go_ret
   exact ⟨_, _, rfl, HO2.out, by omega, by omega, HBW.out.trans (HK2.out.below HBW.out.size (fun k hk => by omega))⟩
theorem il_of_slv {w : World} {B : Nat} {A : Option Addr} {n c : Nat} {l : List Int} (h : SlV w B (.slice A n c) (By.ints l)) (hB : B ≤ w.heap.size) : IL w A n c l := by
 rcases h.inv with ⟨rfl, h1, h2, h3⟩ | ⟨ad, rfl, h1, h2, h3, hr⟩
 ·have hl : l = [] := by simpa [By.ints] using h3
  subst hl h1 h2
  exact Wd.nil
 ·have hl : l.length = n := by rw [h1]; simp [By.ints]
  refine ⟨hl, by omega, h3, (fun e => by cases e), fun i x hi => ⟨ad, rfl, ?_, fun j u hu => ?_⟩⟩
  ·have := (hr i (.int .i64 x) (by simp [By.ints, hi])).1
   first | exact Nat.lt_of_lt_of_le this hB | (rw [add_block] at this; exact Nat.lt_of_lt_of_le this hB)
  ·rcases j with _ | j
   ·have e : Value.int .i64 x = u := by simpa [encI] using hu
    subst e
    have := (hr i (.int .i64 x) (by simp [By.ints, hi])).2
    simpa [Addr.add] using this
   ·simp [encI] at hu
theorem flat_encI (l : List Int) : l.flatMap encI = By.ints l := by
 unfold encI By.ints
 induction l with
 | nil => rfl
 | cons x l ih => simp [List.flatMap_cons] at *; try exact ih
theorem gr_at {w : World} {A : Option Addr} {N c : Nat} {g : List (List Int)} {B : Nat} (h : By.Gr w B (.slice A N c) g) (hN : g.length = N) (hB : B ≤ w.heap.size) {i : Nat} (hi : i < N) :
  ∃ ad A' c', A = some ad ∧ ad.block < w.heap.size ∧ w.cell? (ad.add i) = some (.slice A' (By.rowOf g i).length c') ∧ IL w A' (By.rowOf g i).length c' (By.rowOf g i) := by
 rw [← hN] at h hi
 obtain ⟨ad, c2, e, _, _, hlt, hr⟩ := h.rows (by omega)
 injection e with e1
 obtain ⟨A', c', h1, h2⟩ := hr i hi
 exact ⟨ad, A', c', e1, by omega, h1, il_of_slv h2 hB⟩
def jRow (Ls : Nat → List (List Int)) (p i : Nat) : List Int := (List.range p).flatMap fun q => By.rowOf (Ls q) i
theorem jRow_succ (Ls : Nat → List (List Int)) (p i : Nat) : jRow Ls (p + 1) i = jRow Ls p i ++ By.rowOf (Ls p) i := by
 unfold jRow; rw [List.range_succ, List.flatMap_append]; simp
theorem jRow_len (Ls : Nat → List (List Int)) (b : Nat) (hb : ∀ q i, (By.rowOf (Ls q) i).length ≤ b) : ∀ p i, (jRow Ls p i).length ≤ b * p
 | 0, i => by simp [jRow]
 | p + 1, i => by
  have h := jRow_len Ls b hb p i
  have h2 := hb p i
  rw [jRow_succ, List.length_append, Nat.mul_succ]; omega
def jS (n : Nat) (Ls : Nat → List (List Int)) (p k : Nat) : List (List Int) := (List.range n).map fun i => jRow Ls (if i < k then p + 1 else p) i
theorem jS_len (n : Nat) (Ls : Nat → List (List Int)) (p k : Nat) : (jS n Ls p k).length = n := by simp [jS]
theorem jS_row {n : Nat} {Ls : Nat → List (List Int)} {p k i : Nat} (hi : i < n) : By.rowOf (jS n Ls p k) i = jRow Ls (if i < k then p + 1 else p) i := by
 unfold By.rowOf jS
 rw [List.getD_eq_getElem?_getD, List.getElem?_map, List.getElem?_range hi]; rfl
theorem jS_set {n : Nat} {Ls : Nat → List (List Int)} {p k : Nat} (hk : k < n) : (jS n Ls p k).set k (jRow Ls p k ++ By.rowOf (Ls p) k) = jS n Ls p (k + 1) := by
 apply List.ext_getElem
 ·simp [jS]
 ·intro i h1 h2
  rw [List.getElem_set]
  by_cases h : k = i
  ·subst h; rw [if_pos rfl]; simp only [jS, List.getElem_map, List.getElem_range]; rw [if_pos (by omega), jRow_succ]
  ·rw [if_neg h]
   simp only [jS, List.getElem_map, List.getElem_range]
   by_cases h3 : i < k
   ·rw [if_pos h3, if_pos (by omega)]
   ·rw [if_neg h3, if_neg (by omega)]
theorem jS_end (n : Nat) (Ls : Nat → List (List Int)) (p : Nat) : jS n Ls p n = jS n Ls (p + 1) 0 := by
 unfold jS
 refine List.map_congr_left fun i hi => ?_
 rw [if_pos (List.mem_range.1 hi), if_neg (by omega)]
theorem jS_nil (n : Nat) (Ls : Nat → List (List Int)) : jS n Ls 0 0 = List.replicate n [] := by
 unfold jS jRow
 apply List.ext_getElem
 ·simp
 ·intro i h1 h2; simp
theorem jS_all (n : Nat) (Ls : Nat → List (List Int)) (p : Nat) : jS n Ls p 0 = (List.range n).map (jRow Ls p) := by
 unfold jS
 refine List.map_congr_left fun i _ => ?_
 rw [if_neg (by omega)]
set_option maxRecDepth 100000 in
set_option maxHeartbeats 8000000 in
theorem join_any (w : World) (pb m n : Nat) (Ls : Nat → List (List Int)) (hm : 0 < m ∧ m ≤ 10) (hn : n ≤ 24) (hb : ∀ q i, (By.rowOf (Ls q) i).length ≤ 10000)
  (hp : ∀ W, Below w.heap.size w W → ∀ p, p < m → ∃ A c, W.cell? ⟨pb, p, none⟩ = some (.slice A n c) ∧ By.Gr W w.heap.size (.slice A n c) (Ls p) ∧ (Ls p).length = n) :
  Calls Tryz.prog 83 #[.slice (some ⟨pb, 0, none⟩) m m] w (RowsA w n ((List.range n).map fun a => By.tidyRow (jRow Ls m a))) := by
 obtain ⟨iNf, hiN, hzN0, hzN1, hzN2⟩ := info_split infoInt
 have hmk := By.make_rows n (by omega)
 have HP := Hd hp
 have HJL := Hd (fun p i (h : p ≤ m) => show (jRow Ls p i).length ≤ 100000 from by
  have := jRow_len Ls 10000 hb p i
  have : 10000 * p ≤ 10000 * 10 := Nat.mul_le_mul_left _ (by omega)
  omega)
 have HBL := Hd hb
 have HMAP := Hd (show ((List.range n).map (jRow Ls m)).map By.tidyRow = (List.range n).map fun a => By.tidyRow (jRow Ls m a) from by rw [List.map_map]; rfl)
 rw [← HMAP.out, ← jS_all]
 obtain ⟨pA, pc, c0, _, _⟩ := hp w (Below.refl _ _) 0 hm.1
 obtain ⟨hm0, hm1⟩ := hm
 clear HMAP hp hb
 obtain ⟨W0, hW0⟩ : ∃ W0, w.alloc (.cells (Array.replicate n (.slice none 0 0)) 44) = W0 := ⟨_, rfl⟩
 have HB0 := Hd (show Below w.heap.size w W0 from by rw [← hW0]; exact alloc_ _ _)
 have HO0 := Hd (show By.OwnG W0 w.heap.size (w.heap.size + 1) 44 3 (jS n Ls 0 0) from by
  rw [jS_nil]
  refine By.OwnG.start W0 n _ ?_
  rw [← hW0]; exact Blk.new _ _ _)
 have hmI : (0 : Int) < (m : Int) := by omega
 unfold RowsA
 go_enter Tryz.func83, Tryz.ntmps83
 go_wp2_with fail
 clear hW0 c0
 go_loopw [15] (fun i9 wr => ∃ p : Nat, p ≤ m ∧ i9 = .int .i64 (p : Int) ∧ Hid (By.OwnG wr w.heap.size (w.heap.size + 1) 44 3 (jS n Ls p 0)) ∧ Hid (Below w.heap.size w wr)) (fun i9 _ => m - (intOf i9).toNat)
 case atStart => exact ⟨0, Nat.zero_le _, rfl, HO0, HB0⟩
 case round =>
  obtain ⟨p, hpm, rfl, HOG, HBW⟩ := hrel
  by_cases hlt : p < m
  ·have hpI : (p : Int) < (m : Int) := by omega
   have hp0 : (0 : Int) ≤ (p : Int) := by omega
   have HLT := Hd hlt
   obtain ⟨A, c, cp, _, hLn⟩ := HP.out wr HBW.out p hlt
   have HG := Hd (fun W (hb : Below w.heap.size w W) => show By.Gr W w.heap.size (.slice A n c) (Ls p) from by
    obtain ⟨A2, c2, cp2, hg2, _⟩ := HP.out W hb p hlt
    obtain ⟨A3, c3, cp3, hg3, _⟩ := HP.out w (Below.refl _ _) p hlt
    have e1 := (hb.cell (p := ⟨pb, p, none⟩) (World.block_lt_of_cell? _ _ cp3)).trans cp3
    have e2 := (HBW.out.cell (p := ⟨pb, p, none⟩) (World.block_lt_of_cell? _ _ cp3)).trans cp3
    rw [cp2] at e1
    rw [cp] at e2
    rw [Option.some.inj (e2.trans e1.symm)]; exact hg2)
   have HLN := Hd hLn
   clear hLn
   go_wp2_with fail
   clear cp
   go_loopw [21] (fun i9 wr => ∃ k : Nat, k ≤ n ∧ i9 = .int .i64 (k : Int) ∧ Hid (By.OwnG wr w.heap.size (w.heap.size + 1) 44 3 (jS n Ls p k)) ∧ Hid (Below w.heap.size w wr)) (fun i9 _ => n - (intOf i9).toNat)
   case atStart => exact ⟨0, Nat.zero_le _, rfl, HOG, HBW⟩
   case round =>
    obtain ⟨k, hk, rfl, HOG, HBW⟩ := hrel
    by_cases hkl : k < n
    ·have hkI : (k : Int) < (n : Int) := by omega
     have hk0 : (0 : Int) ≤ (k : Int) := by omega
     have HKL := Hd hkl
     obtain ⟨ad, A', c', rfl, hz1, z0, hil⟩ := gr_at (HG.out wr HBW.out) HLN.out HBW.out.size hkl
     have hlR := HBL.out p k
     have hlX := HJL.out p k (by omega)
     have HNX := Hd (jS_set (Ls := Ls) (p := p) hkl)
     have HO3 := HOG.out
     obtain ⟨rv, hcell, hfr, hone, hrow, ⟨RA, RC, hrv⟩, hput⟩ := HO3.at_ (by omega) (a := k) (by rw [jS_len]; exact hkl)
     rw [jS_row hkl, if_neg (by omega)] at hrow hrv
     have HP9 := Hd hput
     obtain ⟨XL, hXL⟩ : ∃ x, jRow Ls p k = x := ⟨_, rfl⟩
     obtain ⟨YL, hYL⟩ : ∃ x, By.rowOf (Ls p) k = x := ⟨_, rfl⟩
     rw [hXL] at hrow hrv hlX HNX
     rw [hYL] at hlR HNX z0 hil
     clear hXL hYL
     have hlt3 := HO3.lt
     have HRB := Hd (show some w.heap.size ≠ rv.ownBlock from fun e => by have := (hrow.lt _ e.symm).1; omega)
     have HBS := Hd (show ∀ r, rv.ownBlock = some r → w.heap.size + 1 ≤ r from fun r e => (hrow.lt r e).1)
     have HL1 : XL.length + YL.length ≤ maxLen := by unfold maxLen; omega
     have HL2 : (XL.length + YL.length) * 8 ≤ 140737488355328 := by omega
     have HEnd := Hd (show ∀ (rA : Option Addr) (rc : Nat) (w' : World), w'.ownsRow (w.heap.size + 1) 3 1 (.slice rA (XL.length + YL.length) rc) (XL.length + YL.length) (By.ints XL ++ YL.flatMap encI) →
       wr.grownBy w' rv.ownBlock →
       ((Value.slice rA (XL.length + YL.length) rc).ownBlock = rv.ownBlock ∨ (Value.slice rA (XL.length + YL.length) rc).ownBlock = some wr.heap.size) →
       By.OwnG (w'.setCell ⟨w.heap.size, k, none⟩ (.slice rA (XL.length + YL.length) rc)) w.heap.size (w.heap.size + 1) 44 3 (jS n Ls p (k + 1)) ∧
       Below w.heap.size w (w'.setCell ⟨w.heap.size, k, none⟩ (.slice rA (XL.length + YL.length) rc)) from by
      intro rA rc w' h2 h3 h4
      refine ⟨?_, ?_⟩
      ·have h5 := HP9.out (.slice rA (XL.length + YL.length) rc) (XL ++ YL) w' rfl (by rw [flat_encI] at h2; rw [List.length_append]; simpa [By.ints] using h2)
        (by
         rcases h4 with h4 | h4
         ·exact .inr (.inl h4)
         ·exact .inr (.inr ⟨_, h4, Nat.le_refl _⟩))
        (fun k hk hlt hne => h3.block k hlt (fun e => hne e.symm))
       rwa [HNX.out] at h5
      ·refine (HBW.out.trans ?_).setCell (p := ⟨w.heap.size, k, none⟩) (Nat.le_refl _) _
       exact (Below.refl w.heap.size wr).grown h3 (by omega) fun r e => by have := HBS.out r e; omega)
     subst hrv
     clear hput hone HO3
     go_wp2_with (at_builtin; go_loud (refine list_append_wd (enc := encI) _ rfl _ _ 44 rfl (w.heap.size + 1) 3 iNf (.int .i64 0) 1 8 Tryz.underlying44 hiN hzN0 hzN1 hzN2 rfl (by omega) (fun _ => rfl) encI_one _ _ _ rfl hrow A' YL.length c' YL rfl hil HL1 HL2 (by omega) ?_); intro v' w' h2 h3 h4; obtain ⟨rA, rc, rfl⟩ := By.own_form h2; have hrb' := h3.cell hcell HRB.out; have hfr' : w'.frozen? ⟨w.heap.size, k, none⟩ = false := (World.frozen?_of_block (h3.block w.heap.size (World.block_lt_of_cell? _ _ hcell) HRB.out)).trans hfr; have h5 := HEnd.out _ _ _ h2 h3 h4; have H51 := Hd h5.1; have H52 := Hd h5.2; clear h2 h3 h4 h5 hcell hfr hrow)
     go_roundw
     case rel => exact ⟨k + 1, by have := HKL.out; omega, by go_num, H51, H52⟩
     case measure => have := HKL.out; simp [intOf]; omega
    ·obtain rfl : n = k := by omega
     have HO9 := Hd (show By.OwnG wr w.heap.size (w.heap.size + 1) 44 3 (jS n Ls (p + 1) 0) from by
      rw [← jS_end]; exact HOG.out)
     go_wp2_with fail
     go_roundw
     case rel => exact ⟨p + 1, by have := HLT.out; omega, by go_num, HO9, HBW⟩
     case measure => have := HLT.out; simp [intOf]; omega
  ·obtain rfl : m = p := by omega
   have hct := By.ctidy_any wr w.heap.size (w.heap.size + 1) (jS n Ls m 0) HOG.out (by omega) (by rw [jS_len]; omega) (fun i => by
    by_cases hi : i < n
    ·rw [jS_row hi, if_neg (by omega)]; have := HJL.out m i (Nat.le_refl _); omega
    ·unfold By.rowOf
     rw [List.getD_eq_getElem?_getD, List.getElem?_eq_none (by rw [jS_len]; omega)]; simp)
   rw [jS_len] at hct
   have HCT := Hd hct
   have HLW := Hd HOG.out.lt
   clear hct
   go_wp2_with (go_at_call 127; refine HCT.out.mono ?_; rintro e w2 ⟨rfl, hO2, hK2⟩; have HO2 := Hd hO2; have HK2 := Hd hK2; clear hO2 hK2)
   go_ret
   exact ⟨_, _, rfl, HO2.out, by omega, by omega, HBW.out.trans (HK2.out.below HBW.out.size (fun k hk => by omega))⟩
end Go.Proofs.YtdaimeaofgbfpaaGreat.Bo
