/-
 Qy2 Qz2 Ra2 Lb2
-/
import Derived.Test.YtdaimeaofgbfpaaGreatZa2
import Derived.Test.YtdaimeaofgbfpaaGreatQt2
import Derived.Test.YtdaimeaofgbfpaaGreatQp2
import Derived.Test.YtdaimeaofgbfpaaGreatLa2
set_option linter.unusedSimpArgs false
set_option linter.unusedVariables false
namespace Go.Proofs.YtdaimeaofgbfpaaGreat.Bo
open Go.RowKit Go.Maps
open Mem Rf
theorem rowOf_map {n i : Nat} {f : Nat → List Int} : By.rowOf ((List.range n).map f) i = if i < n then f i else [] := by
 unfold By.rowOf
 rw [List.getD_eq_getElem?_getD, List.getElem?_map]
 by_cases h : i < n
 ·rw [List.getElem?_range h, if_pos h]; rfl
 ·rw [if_neg h, List.getElem?_eq_none (by simp; omega)]; rfl
theorem tidyRow_len (l : List Int) : (By.tidyRow l).length ≤ l.length := by
 unfold By.tidyRow
 exact Nat.le_trans (By.compact_le _) (by rw [List.length_mergeSort]; exact Nat.le_refl _)
def namL (P : Pgm) : List (List Int) := (List.range P.fn).map fun a => By.tidyRow (gatP P [17] (tlR (P.fn : Int)) a)
def pkL (P : Pgm) : List (List Int) := (List.range P.fn).map fun a => By.tidyRow (gatP P [18] (tlR (P.dn : Int)) a)
def tbsL (P : Pgm) : List (List Int) := (List.range P.dn).map fun a => By.tidyRow (tabP P a)
def thrL (P : Pgm) : List (List Int) := (List.range P.fn).map fun a => By.tidyRow ((By.rowOf (pkL P) a).flatMap fun x => By.rowOf (tbsL P) x.toNat)
def two (a b : List (List Int)) (q : Nat) : List (List Int) := if q = 0 then a else if q = 1 then b else []
def valP (P : Pgm) : List (List Int) := (List.range P.fn).map fun a => By.tidyRow (jRow (two (namL P) (thrL P)) 2 a)
theorem gat_few {w : World} {P : Pgm} (h : PgR w P) (so : List Int) (tl : By.In5 → Int → Int × Bool) {a : Nat} (ha : a < P.fn) : (gatP P so tl a).length ≤ 80 := by
 have h1 := tgL_len (P.cs a) (gfAt P.fs a).refs (gfAt P.fs a).R.2.1 so tl (gfAt P.fs a).F.code.2.1
 have h2 := ((h.fns a ha).few).1
 unfold gatP; omega
theorem row_few {n b : Nat} {f : Nat → List Int} (h : ∀ a, a < n → (f a).length ≤ b) (i : Nat) : (By.rowOf ((List.range n).map fun a => By.tidyRow (f a)) i).length ≤ b := by
 rw [rowOf_map]
 split
 ·exact Nat.le_trans (tidyRow_len _) (h i (by assumption))
 ·simp
theorem namL_few {w : World} {P : Pgm} (h : PgR w P) (i : Nat) : (By.rowOf (namL P) i).length ≤ 100 := Nat.le_trans (row_few (fun a ha => gat_few h _ _ ha) i) (by omega)
theorem pkL_few {w : World} {P : Pgm} (h : PgR w P) (i : Nat) : (By.rowOf (pkL P) i).length ≤ 100 := Nat.le_trans (row_few (fun a ha => gat_few h _ _ ha) i) (by omega)
theorem tbsL_few {w : World} {P : Pgm} (h : PgR w P) (i : Nat) : (By.rowOf (tbsL P) i).length ≤ 100 := by
 refine Nat.le_trans (row_few (b := 80) (fun a ha => ?_) i) (by omega)
 have h1 := tbL_len (gdAt P.ds a).refs (gdAt P.ds a).R.2.1 (P.fn : Int) (gdAt P.ds a).D.words.2.1
 have h2 := ((h.dats a ha).few).1
 unfold tabP; omega
theorem thrL_few {w : World} {P : Pgm} (h : PgR w P) (i : Nat) : (By.rowOf (thrL P) i).length ≤ 10000 := by
 refine row_few (b := 10000) (fun a ha => ?_) i
 have h1 := thR_len (tbsL P) 100 (tbsL_few h) (By.rowOf (pkL P) a) (By.rowOf (pkL P) a).length
 rw [thR_all] at h1
 have h2 := pkL_few h a
 have : 100 * (By.rowOf (pkL P) a).length ≤ 100 * 100 := Nat.mul_le_mul_left _ h2
 omega
theorem oneB_in {p : Int} {n : Nat} (h : oneB p (n : Int) = true) : ∃ X : Nat, p = (X : Int) ∧ X < n := by
 unfold oneB at h
 rw [Bool.and_eq_true, decide_eq_true_eq, decide_eq_true_eq] at h
 exact ⟨p.toNat, by omega, by omega⟩
theorem tgL_in (cs : List By.In5) (rs : List Int) (nR : Nat) (so : List Int) (m k : Nat) (x : Int) (hx : x ∈ tgL cs rs nR so (tlR (m : Int)) k) : ∃ X : Nat, x = (X : Int) ∧ X < m := by
 unfold tgL at hx
 obtain ⟨j, _, hj⟩ := List.mem_flatMap.1 hx
 unfold tgO tlR at hj
 dsimp only at hj
 split at hj
 ·split at hj
  ·rename_i h2
   rw [List.mem_singleton] at hj
   subst hj
   exact oneB_in h2
  ·cases hj
 ·cases hj
theorem pkL_in (P : Pgm) (i j : Nat) (hj : j < (By.rowOf (pkL P) i).length) : ∃ X : Nat, (By.rowOf (pkL P) i).getD j 0 = (X : Int) ∧ X < P.dn := by
 have hm : (By.rowOf (pkL P) i).getD j 0 ∈ By.rowOf (pkL P) i := by
  rw [List.getD_eq_getElem?_getD, List.getElem?_eq_getElem hj]; exact List.getElem_mem hj
 generalize (By.rowOf (pkL P) i).getD j 0 = x at hm ⊢
 clear hj
 unfold pkL at hm
 rw [rowOf_map] at hm
 split at hm
 ·rw [By.mem_tidyRow] at hm
  unfold gatP at hm
  exact tgL_in _ _ _ _ _ _ _ hm
 ·cases hm
theorem gr_of {w : World} {rb base n : Nat} {L : List (List Int)} (h : By.OwnG w rb base 44 3 L) (hL : L.length = n) (hn : n ≤ 24) : By.Gr w w.heap.size (.slice (some ⟨rb, 0, none⟩) n n) L := by
 subst hL
 exact h.gr _ (Nat.le_refl _) (by unfold maxLen; omega)
theorem gr_on {w w' : World} {v : Value} {L : List (List Int)} (h : By.Gr w w.heap.size v L) (hb : Below w.heap.size w w') : By.Gr w' w'.heap.size v L := (h.below hb).more hb.size
theorem join_two (W : World) (pb n : Nat) (A0 A1 : Option Addr) (c0 c1 : Nat) (L0 L1 : List (List Int)) (hn : n ≤ 24) (hB : Blk W pb 41 #[.slice A0 n c0, .slice A1 n c1]) (g0 : By.Gr W W.heap.size (.slice A0 n c0) L0) (g1 : By.Gr W W.heap.size (.slice A1 n c1) L1)
  (l0 : L0.length = n) (l1 : L1.length = n) (f0 : ∀ i, (By.rowOf L0 i).length ≤ 10000) (f1 : ∀ i, (By.rowOf L1 i).length ≤ 10000) :
  Calls Tryz.prog 83 #[.slice (some ⟨pb, 0, none⟩) 2 2] W (RowsA W n ((List.range n).map fun a => By.tidyRow (jRow (two L0 L1) 2 a))) := by
 refine join_any W pb 2 n (two L0 L1) (by omega) hn (fun q i => ?_) (fun V hb p hp => ?_)
 ·unfold two
  split
  ·exact f0 i
  ·split
   ·exact f1 i
   ·simp [By.rowOf]
 ·have hBV : Blk V pb 41 #[.slice A0 n c0, .slice A1 n c1] := hB.below hb hB.lt
  rcases p with _ | p
  ·exact ⟨A0, c0, hBV.cell 0, by unfold two; rw [if_pos rfl]; exact g0.below hb, by unfold two; rw [if_pos rfl]; exact l0⟩
  ·obtain rfl : p = 0 := by omega
   exact ⟨A1, c1, hBV.cell 1, by unfold two; rw [if_neg (by omega), if_pos rfl]; exact g1.below hb, by unfold two; rw [if_neg (by omega), if_pos rfl]; exact l1⟩
set_option maxRecDepth 100000 in
set_option maxHeartbeats 8000000 in
theorem vias_any (w : World) (P : Pgm) (h : PgR w P) : Calls Tryz.prog 51 #[pgV P] w (RowsA w P.fn ((List.range P.fn).map fun a => By.tidyRow (gatP P [20] tlV a))) := by
 have HGA := Hd (fun W (hb : Below w.heap.size w W) gs (hs : Blk W gs 3 #[.int .i64 20]) =>
  gatherV_any W P (h.on hb) _ 1 1 [20] (il_blk (l := [20]) hs (by unfold maxLen; simp)) (by omega) gs 0 rfl)
 obtain ⟨Q, hQ⟩ : ∃ Q, (List.range P.fn).map (fun a => By.tidyRow (gatP P [20] tlV a)) = Q := ⟨_, rfl⟩
 rw [hQ] at HGA ⊢
 clear h hQ
 obtain ⟨fA, fn, fc, fs, dA, dn, dc, ds, en, cs⟩ := P
 unfold pgV at HGA ⊢
 dsimp only at HGA ⊢
 obtain ⟨W0, hW0⟩ : ∃ W0, w.alloc (.cells #[.slice fA fn fc, .slice dA dn dc, .int .i64 en] 29) = W0 := ⟨_, rfl⟩
 have HBW := Hd (show Below w.heap.size w W0 from by rw [← hW0]; exact alloc_ _ _)
 have HP0 := Hd (show Blk W0 w.heap.size 29 #[.slice fA fn fc, .slice dA dn dc, .int .i64 en] from by rw [← hW0]; exact Blk.new _ _ _)
 obtain ⟨b0, b1, b2⟩ := q3Z HP0.out
 go_enter Tryz.func51, Tryz.ntmps51
 go_wp2_with (go_at_call 88; refine (HGA.out _ (to_ HBW.out (alloc_ _ _)) _ (Blk.new _ _ _)).mono ?_; rintro e w4 ⟨rb, base, rfl, ho, hlb, hbb, hbl⟩; have HO := Hd ho; have HLB := Hd hlb; have HBB := Hd hbb; have HBL := Hd hbl; clear ho hlb hbb hbl)
 go_ret
 exact RowsA.lift ⟨_, _, rfl, HO.out, HLB.out, HBB.out, HBL.out⟩ (to_ HBW.out (alloc_ _ _))
set_option maxRecDepth 100000 in
set_option maxHeartbeats 8000000 in
theorem values_any (w : World) (P : Pgm) (h : PgR w P) : Calls Tryz.prog 47 #[pgV P] w (RowsA w P.fn (valP P)) := by
 have hfn := h.few.1
 have hdn := h.few.2
 have HGA := Hd (fun W (hb : Below w.heap.size w W) g9 (hg : W.cell? ⟨g9, 0, none⟩ = some (.int .i64 (P.fn : Int))) gs (hs : Blk W gs 3 #[.int .i64 17]) =>
  show Calls _ _ _ _ (RowsA W P.fn (namL P)) from gatherR_any W P (h.on hb) g9 (P.fn : Int) hg _ 1 1 [17] (il_blk (l := [17]) hs (by unfold maxLen; simp)) (by omega) gs 0 rfl)
 have HGB := Hd (fun W (hb : Below w.heap.size w W) g9 (hg : W.cell? ⟨g9, 0, none⟩ = some (.int .i64 (P.dn : Int))) gs (hs : Blk W gs 3 #[.int .i64 18]) =>
  show Calls _ _ _ _ (RowsA W P.fn (pkL P)) from gatherR_any W P (h.on hb) g9 (P.dn : Int) hg _ 1 1 [18] (il_blk (l := [18]) hs (by unfold maxLen; simp)) (by omega) gs 0 rfl)
 have HTB := Hd (fun W (hb : Below w.heap.size w W) => show Calls _ _ _ _ (RowsA W P.dn (tbsL P)) from tables_any W P (h.on hb))
 have HN1 := Hd (show (namL P).length = P.fn from by simp [namL])
 have HN2 := Hd (show (pkL P).length = P.fn from by simp [pkL])
 have HN3 := Hd (show (tbsL P).length = P.dn from by simp [tbsL])
 have HN4 := Hd (show (thrL P).length = P.fn from by simp [thrL])
 have HTH := Hd (fun W A c tA tc (g1 : By.Gr W W.heap.size (.slice A P.fn c) (pkL P)) (g2 : By.Gr W W.heap.size (.slice tA P.dn tc) (tbsL P)) =>
  show Calls _ _ _ _ (RowsA W P.fn (thrL P)) from through_any W P.fn P.dn A tA c tc (pkL P) (tbsL P) hfn HN2.out HN3.out g1 g2 (pkL_few h) (tbsL_few h) (pkL_in P))
 have HJO := Hd (fun W pb A0 A1 c0 c1 (hB : Blk W pb 41 #[.slice A0 P.fn c0, .slice A1 P.fn c1]) (g0 : By.Gr W W.heap.size (.slice A0 P.fn c0) (namL P)) (g1 : By.Gr W W.heap.size (.slice A1 P.fn c1) (thrL P)) =>
  show Calls _ _ _ _ (RowsA W P.fn (valP P)) from join_two W pb P.fn A0 A1 c0 c1 (namL P) (thrL P) hfn hB g0 g1 HN1.out HN4.out (fun i => Nat.le_trans (namL_few h i) (by omega)) (thrL_few h))
 have HRF := Hd (fun m W => referred_any m W)
 obtain ⟨Q1, hQ1⟩ : ∃ Q, namL P = Q := ⟨_, rfl⟩
 obtain ⟨Q2, hQ2⟩ : ∃ Q, pkL P = Q := ⟨_, rfl⟩
 obtain ⟨Q3, hQ3⟩ : ∃ Q, tbsL P = Q := ⟨_, rfl⟩
 obtain ⟨Q4, hQ4⟩ : ∃ Q, thrL P = Q := ⟨_, rfl⟩
 obtain ⟨Q5, hQ5⟩ : ∃ Q, valP P = Q := ⟨_, rfl⟩
 rw [hQ1] at HGA HN1 HJO
 rw [hQ2] at HGB HN2 HTH
 rw [hQ3] at HTB HN3 HTH
 rw [hQ4] at HN4 HTH HJO
 rw [hQ5] at HJO ⊢
 clear h hQ1 hQ2 hQ3 hQ4 hQ5
 obtain ⟨fA, fn, fc, fs, dA, dn, dc, ds, en, cs⟩ := P
 unfold pgV at HGA HGB HTB ⊢
 dsimp only at HGA HGB HTB HTH HJO HN1 HN2 HN3 HN4 hfn hdn ⊢
 obtain ⟨W0, hW0⟩ : ∃ W0, w.alloc (.cells #[.slice fA fn fc, .slice dA dn dc, .int .i64 en] 29) = W0 := ⟨_, rfl⟩
 have HBW := Hd (show Below w.heap.size w W0 from by rw [← hW0]; exact alloc_ _ _)
 have HP0 := Hd (show Blk W0 w.heap.size 29 #[.slice fA fn fc, .slice dA dn dc, .int .i64 en] from by rw [← hW0]; exact Blk.new _ _ _)
 obtain ⟨b0, b1, b2⟩ := q3Z HP0.out
 go_enter Tryz.func47, Tryz.ntmps47
 go_wp2_with fail
 clear hW0 HP0
 refine wp_region_noPanic ?_
 refine wp_region_held_drew (S := fun W => W.cell? ⟨w.heap.size, 0, none⟩ = some (.slice fA fn fc) ∧ W.cell? ⟨w.heap.size, 1, none⟩ = some (.slice dA dn dc) ∧ W.cell? ⟨w.heap.size, 2, none⟩ = some (.int .i64 en)) (by kernel_rfl) (⟨b0, b1, b2⟩) (fun hHeld => ?_)
 clear b0 b1 b2
 refine tk4Z 0 1 2 3 hHeld ?_
 refine wpAnyH_ready (rs := [4, 5]) (by kernel_rfl) (by simp) ?_
 refine AllReadyH.cons rfl (fun K hK => ?_) (AllReadyH.cons rfl (fun K hK => ?_) AllReadyH.nil)
 focus
  go_simp
  refine (HRF.out _ _).mono ?_
  rintro e w31 ⟨rfl, hw3⟩
  have HB1 := Hd (show Below W0.drew.heap.size W0.drew w31 from by rw [hw3]; exact alloc_ _ _)
  have HC1 := Hd (show w31.cell? ⟨W0.heap.size, 0, none⟩ = some (.int .i64 ((fn : Nat) : Int)) from by rw [hw3]; exact (Blk.new W0.drew 3 #[.int .i64 ((fn : Nat) : Int)]).cell 0)
  clear hw3
  try go_wp2_with fail
  refine hK.out _ _ ((on3Z hHeld HB1.out)) ?_
  clear hK K hHeld
  intro hHeld
  try simp only [Act.put, nmZ]
  refine rd1Z 5 (fun K hK => ?_)
  go_simp
  refine hK.out _ _ ((on3Z hHeld (alloc_ _ _))) ?_
  clear hK K hHeld
  intro hHeld
  try simp only [Act.put, nmZ]
  refine rd1Z 6 (fun K hK => ?_)
  go_simp
  refine (HGA.out _ (to_ (to_ HBW.out.drew HB1.out) (alloc_ _ _)) _ (cell_on HC1.out (alloc_ _ _)) _ (Blk.new _ _ _)).mono ?_
  rintro e w41 ⟨rb1, base1, rfl, ho, hlb, hbb, hbl⟩
  have HO1 := Hd ho
  have HBB1 := Hd hbb
  have HBL1 := Hd hbl
  have HBN1 := Hd (to_ (to_ (to_ HBW.out.drew HB1.out) (alloc_ _ _)) hbl)
  have HLR1 := Hd (Nat.le_trans ((to_ (to_ HBW.out.drew HB1.out) (alloc_ _ _))).size hlb)
  clear ho hlb hbb hbl
  try go_wp2_with fail
  refine hK.out _ _ ((on3Z hHeld HBL1.out)) ?_
  clear hK K hHeld
  intro hHeld
  try simp only [Act.put, nmZ]
  refine rd1Z 7 (fun K hK => ?_)
  go_simp
  refine hK.out _ _ (hHeld) ?_
  clear hK K hHeld
  intro hHeld
  try simp only [Act.put, nmZ]
  refine wpAnyH_done (by kernel_rfl) ?_ _
  refine NoPanic.normal ?_
  obtain ⟨b0, b1, b2⟩ := hHeld
  go_wp2_with fail
  refine wp_region_noPanic ?_
  refine wp_region_held_drew (S := fun W => W.cell? ⟨w.heap.size, 0, none⟩ = some (.slice fA fn fc) ∧ W.cell? ⟨w.heap.size, 1, none⟩ = some (.slice dA dn dc) ∧ W.cell? ⟨w.heap.size, 2, none⟩ = some (.int .i64 en)) (by kernel_rfl) (⟨b0, b1, b2⟩) (fun hHeld => ?_)
  clear b0 b1 b2
  refine tk4Z 0 1 2 3 hHeld ?_
  refine wpAnyH_ready (rs := [4, 5]) (by kernel_rfl) (by simp) ?_
  refine AllReadyH.cons rfl (fun K hK => ?_) (AllReadyH.cons rfl (fun K hK => ?_) AllReadyH.nil)
  focus
   go_simp
   refine (HRF.out _ _).mono ?_
   rintro e w32 ⟨rfl, hw3⟩
   have HB1 := Hd (show Below w41.drew.heap.size w41.drew w32 from by rw [hw3]; exact alloc_ _ _)
   have HC1 := Hd (show w32.cell? ⟨w41.heap.size, 0, none⟩ = some (.int .i64 ((dn : Nat) : Int)) from by rw [hw3]; exact (Blk.new w41.drew 3 #[.int .i64 ((dn : Nat) : Int)]).cell 0)
   clear hw3
   try go_wp2_with fail
   refine hK.out _ _ ((on3Z hHeld HB1.out)) ?_
   clear hK K hHeld
   intro hHeld
   try simp only [Act.put, nmZ]
   refine rd1Z 5 (fun K hK => ?_)
   go_simp
   refine hK.out _ _ ((on3Z hHeld (alloc_ _ _))) ?_
   clear hK K hHeld
   intro hHeld
   try simp only [Act.put, nmZ]
   refine rd1Z 6 (fun K hK => ?_)
   go_simp
   refine (HGB.out _ (to_ (to_ HBN1.out.drew HB1.out) (alloc_ _ _)) _ (cell_on HC1.out (alloc_ _ _)) _ (Blk.new _ _ _)).mono ?_
   rintro e w42 ⟨rb2, base2, rfl, ho, hlb, hbb, hbl⟩
   have HO2 := Hd ho
   have HBB2 := Hd hbb
   have HBL2 := Hd hbl
   have HBX := Hd (show Below w41.heap.size w41 w42 from to_ (to_ (to_ (Below.refl _ _).drew HB1.out) (alloc_ _ _)) hbl)
   have HBN2 := Hd (to_ (to_ (to_ HBN1.out.drew HB1.out) (alloc_ _ _)) hbl)
   have HLR2 := Hd (Nat.le_trans ((to_ (to_ HBN1.out.drew HB1.out) (alloc_ _ _))).size hlb)
  rotate_left
  focus
   go_simp
   refine hK.out _ _ ((on3Z hHeld (alloc_ _ _))) ?_
   clear hK K hHeld
   intro hHeld
   try simp only [Act.put, nmZ]
   refine rd1Z 4 (fun K hK => ?_)
   go_simp
   refine (HRF.out _ _).mono ?_
   rintro e w32 ⟨rfl, hw3⟩
   have HB0 := Hd (alloc_ w41.drew (.cells #[.int .i64 18] 3))
   have HB1 := Hd (show Below (w41.drew.alloc (.cells #[.int .i64 18] 3)).heap.size (w41.drew.alloc (.cells #[.int .i64 18] 3)) w32 from by rw [hw3]; exact alloc_ _ _)
   have HC1 := Hd (show w32.cell? ⟨(w41.drew.alloc (.cells #[.int .i64 18] 3)).heap.size, 0, none⟩ = some (.int .i64 ((dn : Nat) : Int)) from by rw [hw3]; exact (Blk.new _ 3 #[.int .i64 ((dn : Nat) : Int)]).cell 0)
   have HA1 := Hd (show Blk w32 w41.heap.size 3 #[.int .i64 18] from by rw [hw3]; exact (Blk.new w41.drew 3 #[.int .i64 18]).alloc _)
   clear hw3
   try go_wp2_with fail
   refine hK.out _ _ ((on3Z hHeld HB1.out)) ?_
   clear hK K hHeld
   intro hHeld
   try simp only [Act.put, nmZ]
   refine rd1Z 6 (fun K hK => ?_)
   go_simp
   refine (HGB.out _ (to_ (to_ HBN1.out.drew HB0.out) HB1.out) _ (by first | exact HC1.out | simpa using HC1.out) _ HA1.out).mono ?_
   rintro e w42 ⟨rb2, base2, rfl, ho, hlb, hbb, hbl⟩
   have HO2 := Hd ho
   have HBB2 := Hd hbb
   have HBL2 := Hd hbl
   have HBX := Hd (show Below w41.heap.size w41 w42 from to_ (to_ (to_ (Below.refl _ _).drew HB0.out) HB1.out) hbl)
   have HBN2 := Hd (to_ (to_ (to_ HBN1.out.drew HB0.out) HB1.out) hbl)
   have HLR2 := Hd (Nat.le_trans ((to_ (to_ HBN1.out.drew HB0.out) HB1.out)).size hlb)
  rotate_left
 rotate_left 2
 focus
  go_simp
  refine hK.out _ _ ((on3Z hHeld (alloc_ _ _))) ?_
  clear hK K hHeld
  intro hHeld
  try simp only [Act.put, nmZ]
  refine rd1Z 4 (fun K hK => ?_)
  go_simp
  refine (HRF.out _ _).mono ?_
  rintro e w31 ⟨rfl, hw3⟩
  have HB0 := Hd (alloc_ W0.drew (.cells #[.int .i64 17] 3))
  have HB1 := Hd (show Below (W0.drew.alloc (.cells #[.int .i64 17] 3)).heap.size (W0.drew.alloc (.cells #[.int .i64 17] 3)) w31 from by rw [hw3]; exact alloc_ _ _)
  have HC1 := Hd (show w31.cell? ⟨(W0.drew.alloc (.cells #[.int .i64 17] 3)).heap.size, 0, none⟩ = some (.int .i64 ((fn : Nat) : Int)) from by rw [hw3]; exact (Blk.new _ 3 #[.int .i64 ((fn : Nat) : Int)]).cell 0)
  have HA1 := Hd (show Blk w31 W0.heap.size 3 #[.int .i64 17] from by rw [hw3]; exact (Blk.new W0.drew 3 #[.int .i64 17]).alloc _)
  clear hw3
  try go_wp2_with fail
  refine hK.out _ _ ((on3Z hHeld HB1.out)) ?_
  clear hK K hHeld
  intro hHeld
  try simp only [Act.put, nmZ]
  refine rd1Z 6 (fun K hK => ?_)
  go_simp
  refine (HGA.out _ (to_ (to_ HBW.out.drew HB0.out) HB1.out) _ (by first | exact HC1.out | simpa using HC1.out) _ HA1.out).mono ?_
  rintro e w41 ⟨rb1, base1, rfl, ho, hlb, hbb, hbl⟩
  have HO1 := Hd ho
  have HBB1 := Hd hbb
  have HBL1 := Hd hbl
  have HBN1 := Hd (to_ (to_ (to_ HBW.out.drew HB0.out) HB1.out) hbl)
  have HLR1 := Hd (Nat.le_trans ((to_ (to_ HBW.out.drew HB0.out) HB1.out)).size hlb)
  clear ho hlb hbb hbl
  try go_wp2_with fail
  refine hK.out _ _ ((on3Z hHeld HBL1.out)) ?_
  clear hK K hHeld
  intro hHeld
  try simp only [Act.put, nmZ]
  refine rd1Z 7 (fun K hK => ?_)
  go_simp
  refine hK.out _ _ (hHeld) ?_
  clear hK K hHeld
  intro hHeld
  try simp only [Act.put, nmZ]
  refine wpAnyH_done (by kernel_rfl) ?_ _
  refine NoPanic.normal ?_
  obtain ⟨b0, b1, b2⟩ := hHeld
  go_wp2_with fail
  refine wp_region_noPanic ?_
  refine wp_region_held_drew (S := fun W => W.cell? ⟨w.heap.size, 0, none⟩ = some (.slice fA fn fc) ∧ W.cell? ⟨w.heap.size, 1, none⟩ = some (.slice dA dn dc) ∧ W.cell? ⟨w.heap.size, 2, none⟩ = some (.int .i64 en)) (by kernel_rfl) (⟨b0, b1, b2⟩) (fun hHeld => ?_)
  clear b0 b1 b2
  refine tk4Z 0 1 2 3 hHeld ?_
  refine wpAnyH_ready (rs := [4, 5]) (by kernel_rfl) (by simp) ?_
  refine AllReadyH.cons rfl (fun K hK => ?_) (AllReadyH.cons rfl (fun K hK => ?_) AllReadyH.nil)
  focus
   go_simp
   refine (HRF.out _ _).mono ?_
   rintro e w32 ⟨rfl, hw3⟩
   have HB1 := Hd (show Below w41.drew.heap.size w41.drew w32 from by rw [hw3]; exact alloc_ _ _)
   have HC1 := Hd (show w32.cell? ⟨w41.heap.size, 0, none⟩ = some (.int .i64 ((dn : Nat) : Int)) from by rw [hw3]; exact (Blk.new w41.drew 3 #[.int .i64 ((dn : Nat) : Int)]).cell 0)
   clear hw3
   try go_wp2_with fail
   refine hK.out _ _ ((on3Z hHeld HB1.out)) ?_
   clear hK K hHeld
   intro hHeld
   try simp only [Act.put, nmZ]
   refine rd1Z 5 (fun K hK => ?_)
   go_simp
   refine hK.out _ _ ((on3Z hHeld (alloc_ _ _))) ?_
   clear hK K hHeld
   intro hHeld
   try simp only [Act.put, nmZ]
   refine rd1Z 6 (fun K hK => ?_)
   go_simp
   refine (HGB.out _ (to_ (to_ HBN1.out.drew HB1.out) (alloc_ _ _)) _ (cell_on HC1.out (alloc_ _ _)) _ (Blk.new _ _ _)).mono ?_
   rintro e w42 ⟨rb2, base2, rfl, ho, hlb, hbb, hbl⟩
   have HO2 := Hd ho
   have HBB2 := Hd hbb
   have HBL2 := Hd hbl
   have HBX := Hd (show Below w41.heap.size w41 w42 from to_ (to_ (to_ (Below.refl _ _).drew HB1.out) (alloc_ _ _)) hbl)
   have HBN2 := Hd (to_ (to_ (to_ HBN1.out.drew HB1.out) (alloc_ _ _)) hbl)
   have HLR2 := Hd (Nat.le_trans ((to_ (to_ HBN1.out.drew HB1.out) (alloc_ _ _))).size hlb)
  rotate_left
  focus
   go_simp
   refine hK.out _ _ ((on3Z hHeld (alloc_ _ _))) ?_
   clear hK K hHeld
   intro hHeld
   try simp only [Act.put, nmZ]
   refine rd1Z 4 (fun K hK => ?_)
   go_simp
   refine (HRF.out _ _).mono ?_
   rintro e w32 ⟨rfl, hw3⟩
   have HB0 := Hd (alloc_ w41.drew (.cells #[.int .i64 18] 3))
   have HB1 := Hd (show Below (w41.drew.alloc (.cells #[.int .i64 18] 3)).heap.size (w41.drew.alloc (.cells #[.int .i64 18] 3)) w32 from by rw [hw3]; exact alloc_ _ _)
   have HC1 := Hd (show w32.cell? ⟨(w41.drew.alloc (.cells #[.int .i64 18] 3)).heap.size, 0, none⟩ = some (.int .i64 ((dn : Nat) : Int)) from by rw [hw3]; exact (Blk.new _ 3 #[.int .i64 ((dn : Nat) : Int)]).cell 0)
   have HA1 := Hd (show Blk w32 w41.heap.size 3 #[.int .i64 18] from by rw [hw3]; exact (Blk.new w41.drew 3 #[.int .i64 18]).alloc _)
   clear hw3
   try go_wp2_with fail
   refine hK.out _ _ ((on3Z hHeld HB1.out)) ?_
   clear hK K hHeld
   intro hHeld
   try simp only [Act.put, nmZ]
   refine rd1Z 6 (fun K hK => ?_)
   go_simp
   refine (HGB.out _ (to_ (to_ HBN1.out.drew HB0.out) HB1.out) _ (by first | exact HC1.out | simpa using HC1.out) _ HA1.out).mono ?_
   rintro e w42 ⟨rb2, base2, rfl, ho, hlb, hbb, hbl⟩
   have HO2 := Hd ho
   have HBB2 := Hd hbb
   have HBL2 := Hd hbl
   have HBX := Hd (show Below w41.heap.size w41 w42 from to_ (to_ (to_ (Below.refl _ _).drew HB0.out) HB1.out) hbl)
   have HBN2 := Hd (to_ (to_ (to_ HBN1.out.drew HB0.out) HB1.out) hbl)
   have HLR2 := Hd (Nat.le_trans ((to_ (to_ HBN1.out.drew HB0.out) HB1.out)).size hlb)
  rotate_left
 rotate_left 2
 all_goals
  clear ho hlb hbb hbl
  try go_wp2_with fail
  refine hK.out _ _ ((on3Z hHeld HBL2.out)) ?_
  clear hK K hHeld
  intro hHeld
  try simp only [Act.put, nmZ]
  refine rd1Z 7 (fun K hK => ?_)
  go_simp
  refine hK.out _ _ (hHeld) ?_
  clear hK K hHeld
  intro hHeld
  try simp only [Act.put, nmZ]
  refine wpAnyH_done (by kernel_rfl) ?_ _
  refine NoPanic.normal ?_
  obtain ⟨b0, b1, b2⟩ := hHeld
  have HG1 := Hd (gr_on (gr_of HO1.out HN1.out hfn) HBX.out)
  have HG2 := Hd (gr_of HO2.out HN2.out hfn)
  go_wp2_with (first | (go_at_call 91; refine (HTB.out _ HBN2.out).mono ?_; rintro e w8 ⟨rb8, base8, rfl, ho8, _, _, hbl8⟩; have HG3 := Hd (gr_of ho8 HN3.out hdn); have HG12 := Hd (gr_on HG1.out hbl8); have HG22 := Hd (gr_on HG2.out hbl8); have HB8 := Hd hbl8; clear ho8 hbl8) | (go_at_call 90; refine (HTH.out _ _ _ _ _ HG22.out HG3.out).mono ?_; rintro e w9 ⟨rb9, base9, rfl, ho9, _, _, hbl9⟩; have HG4 := Hd (gr_of ho9 HN4.out hfn); have HG13 := Hd (gr_on HG12.out hbl9); have HB9 := Hd hbl9; clear ho9 hbl9) | (go_at_call 83; refine (HJO.out _ _ _ _ _ _ (Blk.new _ _ _) (gr_on HG13.out (alloc_ _ _)) (gr_on HG4.out (alloc_ _ _))).mono ?_; rintro e w10 ⟨rb10, base10, rfl, ho10, hlb10, hbb10, hbl10⟩; have HO10 := Hd ho10; have HLB10 := Hd hlb10; have HBB10 := Hd hbb10; have HBL10 := Hd hbl10; clear ho10 hlb10 hbb10 hbl10))
  go_ret
  exact RowsA.lift ⟨_, _, rfl, HO10.out, HLB10.out, HBB10.out, HBL10.out⟩ (to_ (to_ (to_ HBN2.out HB8.out) HB9.out) (alloc_ _ _))
def dirL (P : Pgm) : List (List Int) := (List.range P.fn).map fun a => By.tidyRow (gatP P [19, 21] (tlR (P.fn : Int)) a)
def refP (P : Pgm) : List (List Int) := (List.range P.fn).map fun a => By.tidyRow (jRow (two (dirL P) (valP P)) 2 a)
theorem jRow_two (a b : List (List Int)) (i : Nat) : jRow (two a b) 2 i = By.rowOf a i ++ By.rowOf b i := by
 rw [jRow_succ, jRow_succ]
 unfold jRow two
 simp
theorem dirL_few {w : World} {P : Pgm} (h : PgR w P) (i : Nat) : (By.rowOf (dirL P) i).length ≤ 80 := row_few (fun a ha => gat_few h _ _ ha) i
theorem valP_few {w : World} {P : Pgm} (h : PgR w P) (i : Nat) : (By.rowOf (valP P) i).length ≤ 10000 := by
 refine row_few (b := 10000) (fun a ha => ?_) i
 rw [jRow_two, List.length_append]
 have h1 : (By.rowOf (namL P) a).length ≤ 80 := row_few (fun a ha => gat_few h _ _ ha) a
 have hp : ∀ i, (By.rowOf (pkL P) i).length ≤ 80 := fun i => row_few (fun a ha => gat_few h _ _ ha) i
 have ht : ∀ i, (By.rowOf (tbsL P) i).length ≤ 80 := fun i => row_few (fun a ha => by
  have h1 := tbL_len (gdAt P.ds a).refs (gdAt P.ds a).R.2.1 (P.fn : Int) (gdAt P.ds a).D.words.2.1
  have h2 := ((h.dats a ha).few).1
  unfold tabP; omega) i
 have h2 : (By.rowOf (thrL P) a).length ≤ 6400 := row_few (b := 6400) (fun a ha => by
  have h1 := thR_len (tbsL P) 80 ht (By.rowOf (pkL P) a) (By.rowOf (pkL P) a).length
  rw [thR_all] at h1
  have h2 := hp a
  have : 80 * (By.rowOf (pkL P) a).length ≤ 80 * 80 := Nat.mul_le_mul_left _ h2
  omega) a
 omega
set_option maxRecDepth 100000 in
set_option maxHeartbeats 8000000 in
theorem refers_any (w : World) (P : Pgm) (h : PgR w P) : Calls Tryz.prog 44 #[pgV P] w (RowsA w P.fn (refP P)) := by
 have hfn := h.few.1
 have HDI := Hd (fun W (hb : Below w.heap.size w W) => show Calls _ _ _ _ (RowsA W P.fn (dirL P)) from direct_any W P (h.on hb))
 have HVA := Hd (fun W (hb : Below w.heap.size w W) => values_any W P (h.on hb))
 have HN1 := Hd (show (dirL P).length = P.fn from by simp [dirL])
 have HN2 := Hd (show (valP P).length = P.fn from by simp [valP])
 have HJO := Hd (fun W pb A0 A1 c0 c1 (hB : Blk W pb 41 #[.slice A0 P.fn c0, .slice A1 P.fn c1]) (g0 : By.Gr W W.heap.size (.slice A0 P.fn c0) (dirL P)) (g1 : By.Gr W W.heap.size (.slice A1 P.fn c1) (valP P)) =>
  show Calls _ _ _ _ (RowsA W P.fn (refP P)) from join_two W pb P.fn A0 A1 c0 c1 (dirL P) (valP P) hfn hB g0 g1 HN1.out HN2.out (fun i => Nat.le_trans (dirL_few h i) (by omega)) (valP_few h))
 obtain ⟨Q1, hQ1⟩ : ∃ Q, dirL P = Q := ⟨_, rfl⟩
 obtain ⟨Q2, hQ2⟩ : ∃ Q, valP P = Q := ⟨_, rfl⟩
 obtain ⟨Q5, hQ5⟩ : ∃ Q, refP P = Q := ⟨_, rfl⟩
 rw [hQ1] at HDI HN1 HJO
 rw [hQ2] at HVA HN2 HJO
 rw [hQ5] at HJO ⊢
 clear h hQ1 hQ2 hQ5
 obtain ⟨fA, fn, fc, fs, dA, dn, dc, ds, en, cs⟩ := P
 unfold pgV at HDI HVA ⊢
 dsimp only at HDI HVA HJO HN1 HN2 hfn ⊢
 obtain ⟨W0, hW0⟩ : ∃ W0, w.alloc (.cells #[.slice fA fn fc, .slice dA dn dc, .int .i64 en] 29) = W0 := ⟨_, rfl⟩
 have HBW := Hd (show Below w.heap.size w W0 from by rw [← hW0]; exact alloc_ _ _)
 have HP0 := Hd (show Blk W0 w.heap.size 29 #[.slice fA fn fc, .slice dA dn dc, .int .i64 en] from by rw [← hW0]; exact Blk.new _ _ _)
 obtain ⟨b0, b1, b2⟩ := q3Z HP0.out
 go_enter Tryz.func44, Tryz.ntmps44
 go_wp2_with fail
 clear hW0 HP0
 refine wp_region_noPanic ?_
 refine wp_region_held_drew (S := fun W => W.cell? ⟨w.heap.size, 0, none⟩ = some (.slice fA fn fc) ∧ W.cell? ⟨w.heap.size, 1, none⟩ = some (.slice dA dn dc) ∧ W.cell? ⟨w.heap.size, 2, none⟩ = some (.int .i64 en)) (by kernel_rfl) (⟨b0, b1, b2⟩) (fun hHeld => ?_)
 clear b0 b1 b2
 refine tk2Z 0 2 hHeld ?_
 refine rd1Z 1 (fun K hK => ?_)
 go_simp
 refine (HDI.out _ HBW.out.drew).mono ?_
 rintro e w4 ⟨rb4, base4, rfl, ho, _, _, hbl⟩
 have HG1 := Hd (gr_of ho HN1.out hfn)
 have HBL1 := Hd hbl
 have HBN1 := Hd (to_ HBW.out.drew hbl)
 clear ho hbl
 try go_wp2_with fail
 refine hK.out _ _ ((on3Z hHeld HBL1.out)) ?_
 clear hK K hHeld
 intro hHeld
 try simp only [Act.put, nmZ]
 refine rd1Z 3 (fun K hK => ?_)
 go_simp
 refine (HVA.out _ HBN1.out).mono ?_
 rintro e w5 ⟨rb5, base5, rfl, ho, _, _, hbl⟩
 have HG2 := Hd (gr_of ho HN2.out hfn)
 have HG12 := Hd (gr_on HG1.out hbl)
 have HBL2 := Hd hbl
 have HBN2 := Hd (to_ HBN1.out hbl)
 clear ho hbl
 try go_wp2_with fail
 refine hK.out _ _ ((on3Z hHeld HBL2.out)) ?_
 clear hK K hHeld
 intro hHeld
 try simp only [Act.put, nmZ]
 refine rd1Z 4 (fun K hK => ?_)
 go_simp
 refine hK.out _ _ ((on3Z hHeld (alloc_ _ _))) ?_
 clear hK K hHeld
 intro hHeld
 try simp only [Act.put, nmZ]
 refine rd1Z 5 (fun K hK => ?_)
 go_simp
 refine (HJO.out _ _ _ _ _ _ (Blk.new _ _ _) (gr_on HG12.out (alloc_ _ _)) (gr_on HG2.out (alloc_ _ _))).mono ?_
 rintro e w6 ⟨rb6, base6, rfl, ho, hlb, hbb, hbl⟩
 have HO10 := Hd ho
 have HLB10 := Hd hlb
 have HBB10 := Hd hbb
 have HBL10 := Hd hbl
 clear ho hlb hbb hbl
 try go_wp2_with fail
 refine hK.out _ _ ((on3Z hHeld HBL10.out)) ?_
 clear hK K hHeld
 intro hHeld
 try simp only [Act.put, nmZ]
 refine rd1Z 6 (fun K hK => ?_)
 go_simp
 refine hK.out _ _ (hHeld) ?_
 clear hK K hHeld
 intro hHeld
 try simp only [Act.put, nmZ]
 refine wpAnyH_done (by kernel_rfl) ?_ _
 refine NoPanic.normal ?_
 go_wp2_with fail
 go_ret
 exact RowsA.lift ⟨_, _, rfl, HO10.out, HLB10.out, HBB10.out, HBL10.out⟩ (to_ HBN2.out (alloc_ _ _))
theorem mem_rise {m : Nat} {l : List Int} {x : Int} : x ∈ rise m l ↔ (0 ≤ x ∧ x < m) ∧ x ∈ l := by
 unfold rise
 rw [List.mem_map]
 constructor
 ·rintro ⟨i, hi, rfl⟩
  rw [List.mem_filter, List.mem_range] at hi
  exact ⟨⟨by omega, by omega⟩, by simpa using hi.2⟩
 ·rintro ⟨⟨h1, h2⟩, h3⟩
  refine ⟨x.toNat, ?_, by omega⟩
  rw [List.mem_filter, List.mem_range]
  have e : ((x.toNat : Nat) : Int) = x := by omega
  rw [e]
  exact ⟨by omega, by simpa using h3⟩
theorem rise_rises (m : Nat) (l : List Int) : (rise m l).Pairwise (· < ·) := by
 unfold rise
 rw [List.pairwise_map]
 exact ((List.pairwise_lt_range).filter _).imp (fun h => by omega)
theorem tidy_rise {l l2 : List Int} {m : Nat} (h : ∀ x, x ∈ l ↔ (0 ≤ x ∧ x < m) ∧ x ∈ l2) : By.tidyRow l = rise m l2 := by
 refine By.rising_eq (By.tidyRow_rises _) (rise_rises _ _) (fun x => ?_)
 rw [By.mem_tidyRow, mem_rise, h]
theorem oneB_iff {p : Int} {n : Nat} : oneB p (n : Int) = true ↔ 0 ≤ p ∧ p < n := by
 unfold oneB; rw [Bool.and_eq_true, decide_eq_true_eq, decide_eq_true_eq]
theorem mem_tgL {cs : List By.In5} {rs : List Int} {nR : Nat} {so : List Int} {tl : By.In5 → Int → Int × Bool} {k : Nat} {x : Int} :
  x ∈ tgL cs rs nR so tl k ↔ ∃ j, j < k ∧ so.contains (By.inAt cs j).1 = true ∧ (tl (By.inAt cs j) (rfA rs nR j)).2 = true ∧ x = (tl (By.inAt cs j) (rfA rs nR j)).1 := by
 unfold tgL
 rw [List.mem_flatMap]
 constructor
 ·rintro ⟨j, hj, hx⟩
  unfold tgO at hx
  refine ⟨j, List.mem_range.1 hj, ?_⟩
  by_cases h1 : so.contains (By.inAt cs j).1 = true
  ·rw [if_pos h1] at hx
   by_cases h2 : (tl (By.inAt cs j) (rfA rs nR j)).2 = true
   ·rw [if_pos h2] at hx; exact ⟨h1, h2, List.mem_singleton.1 hx⟩
   ·rw [if_neg h2] at hx; cases hx
  ·rw [if_neg h1] at hx; cases hx
 ·rintro ⟨j, hj, h1, h2, rfl⟩
  refine ⟨j, List.mem_range.2 hj, ?_⟩
  unfold tgO
  rw [if_pos h1, if_pos h2]; exact List.mem_singleton.2 rfl
theorem mem_gatL {cs : List By.In5} {rs : List Int} {ok : By.In5 → Bool} {k : Nat} {x : Int} : x ∈ gatL cs rs ok k ↔ ∃ j, j < k ∧ ok (By.inAt cs j) = true ∧ x = rs.getD j 0 := by
 unfold gatL
 rw [List.mem_map]
 constructor
 ·rintro ⟨j, hj, rfl⟩
  rw [List.mem_filter, List.mem_range] at hj
  exact ⟨j, hj.1, hj.2, rfl⟩
 ·rintro ⟨j, h1, h2, rfl⟩
  exact ⟨j, by rw [List.mem_filter, List.mem_range]; exact ⟨h1, h2⟩, rfl⟩
theorem gat_rise (P : Pgm) (so ns : List Int) (m a : Nat) (hs : ∀ op, so.contains op = ns.contains (By.ndV op)) : By.tidyRow (gatP P so (tlR (m : Int)) a) = rise m (gatV (gfAt P.fs a) (P.cs a) ns) := by
 refine tidy_rise (fun x => ?_)
 unfold gatP gatV
 rw [mem_tgL, mem_gatL]
 unfold tlR okN
 dsimp only
 constructor
 ·rintro ⟨j, hj, h1, h2, rfl⟩
  rw [oneB_iff] at h2
  refine ⟨h2, j, ?_, by rw [← hs]; exact h1, ?_⟩
  ·unfold rfA at h2
   split at h2
   ·omega
   ·omega
  ·unfold rfA at h2 ⊢
   split at h2
   ·rw [if_pos (by assumption)]
   ·omega
 ·rintro ⟨h0, j, hj, h1, rfl⟩
  have e : rfA (gfAt P.fs a).refs (gfAt P.fs a).R.2.1 j = (gfAt P.fs a).refs.getD j 0 := by unfold rfA; rw [if_pos (by omega)]
  refine ⟨j, by omega, by rw [hs]; exact h1, ?_, e.symm⟩
  rw [e, oneB_iff]; exact h0
theorem so_direct (op : Int) : [19, 21].contains op = [1, 5].contains (By.ndV op) := by
 rw [Bool.eq_iff_iff]
 simp only [List.contains_cons, List.contains_nil, Bool.or_false, Bool.or_eq_true, beq_iff_eq]
 unfold By.ndV
 (repeat' split) <;> omega
theorem so_pick (op : Int) : [18].contains op = [4].contains (By.ndV op) := by
 rw [Bool.eq_iff_iff]
 simp only [List.contains_cons, List.contains_nil, Bool.or_false, Bool.or_eq_true, beq_iff_eq]
 unfold By.ndV
 (repeat' split) <;> omega
theorem so_func (op : Int) : [17].contains op = [2].contains (By.ndV op) := by
 rw [Bool.eq_iff_iff]
 simp only [List.contains_cons, List.contains_nil, Bool.or_false, Bool.or_eq_true, beq_iff_eq]
 unfold By.ndV
 (repeat' split) <;> omega
theorem dir_doc (P : Pgm) (a : Nat) : By.tidyRow (gatP P [19, 21] (tlR (P.fn : Int)) a) = directL P a := gat_rise P _ _ _ a so_direct
theorem pk_doc (P : Pgm) (a : Nat) : By.tidyRow (gatP P [18] (tlR (P.dn : Int)) a) = tabsL P a := gat_rise P _ _ _ a so_pick
theorem nam_doc (P : Pgm) (a : Nat) : By.tidyRow (gatP P [17] (tlR (P.fn : Int)) a) = rise P.fn (gatV (gfAt P.fs a) (P.cs a) [2]) := gat_rise P _ _ _ a so_func
theorem via_doc (P : Pgm) (a : Nat) : By.tidyRow (gatP P [20] tlV a) = viasL P a := by
 refine tidy_rise (m := 8) (fun x => ?_)
 unfold gatP viaG
 rw [mem_tgL, List.mem_map]
 unfold tlV
 dsimp only
 have h8 : ((8 : Nat) : Int) = 8 := rfl
 constructor
 ·rintro ⟨j, hj, h1, h2, rfl⟩
  rw [← h8, oneB_iff] at h2
  refine ⟨h2, j, ?_, rfl⟩
  rw [List.mem_filter, List.mem_range]
  exact ⟨hj, by simpa using h1⟩
 ·rintro ⟨h0, j, hj, rfl⟩
  rw [List.mem_filter, List.mem_range] at hj
  refine ⟨j, hj.1, by simpa using hj.2, ?_, rfl⟩
  rw [← h8, oneB_iff]; exact h0
theorem mem_tab {w : World} {P : Pgm} (h : PgR w P) {X : Nat} (hX : X < P.dn) {x : Int} : x ∈ tabP P X ↔ (0 ≤ x ∧ x < P.fn) ∧ x ∈ (gdAt P.ds X).refs := by
 have hl : (gdAt P.ds X).refs.length = (gdAt P.ds X).R.2.1 := (h.dats X hX).refs.1
 have hf := (h.dats X hX).few.2
 unfold tabP tbL
 rw [List.mem_flatMap]
 constructor
 ·rintro ⟨j, hj, hx⟩
  unfold tbO at hx
  split at hx
  ·rename_i h1
   rw [oneB_iff] at h1
   rw [List.mem_singleton] at hx
   subst hx
   refine ⟨h1, ?_⟩
   unfold rfA at h1 ⊢
   split at h1
   ·rename_i h2
    rw [if_pos h2, List.getD_eq_getElem?_getD, List.getElem?_eq_getElem (by omega)]
    exact List.getElem_mem _
   ·omega
  ·cases hx
 ·rintro ⟨h0, hm⟩
  obtain ⟨j, hj, e⟩ := List.mem_iff_getElem.1 hm
  have e2 : rfA (gdAt P.ds X).refs (gdAt P.ds X).R.2.1 j = x := by
   unfold rfA
   rw [if_pos (by omega), List.getD_eq_getElem?_getD, List.getElem?_eq_getElem hj, e]; rfl
  refine ⟨j, List.mem_range.2 (by omega), ?_⟩
  unfold tbO
  rw [e2, if_pos (oneB_iff.2 h0)]
  exact List.mem_singleton.2 rfl
theorem val_doc {w : World} {P : Pgm} (h : PgR w P) {a : Nat} (ha : a < P.fn) : By.tidyRow (jRow (two (namL P) (thrL P)) 2 a) = valuesL P a := by
 refine tidy_rise (fun x => ?_)
 rw [jRow_two, List.mem_append]
 unfold namL thrL
 rw [rowOf_map, rowOf_map, if_pos ha, if_pos ha, nam_doc, mem_rise, By.mem_tidyRow, List.mem_append]
 unfold pickL
 rw [List.mem_flatMap, List.mem_flatMap]
 have key : (∃ y, y ∈ By.rowOf (pkL P) a ∧ x ∈ By.rowOf (tbsL P) y.toNat) ↔ (0 ≤ x ∧ x < P.fn) ∧ ∃ y, y ∈ tabsL P a ∧ x ∈ (gdAt P.ds y.toNat).refs := by
  unfold pkL tbsL
  rw [rowOf_map, if_pos ha, pk_doc]
  constructor
  ·rintro ⟨y, hy, hx⟩
   have hy2 := (mem_rise.1 hy).1
   have hlt : y.toNat < P.dn := by omega
   rw [rowOf_map, if_pos hlt, By.mem_tidyRow, mem_tab h hlt] at hx
   exact ⟨hx.1, y, hy, hx.2⟩
  ·rintro ⟨h0, y, hy, hx⟩
   have hy2 := (mem_rise.1 hy).1
   have hlt : y.toNat < P.dn := by omega
   refine ⟨y, hy, ?_⟩
   rw [rowOf_map, if_pos hlt, By.mem_tidyRow, mem_tab h hlt]
   exact ⟨h0, hx⟩
 constructor
 ·rintro (h1 | h1)
  ·exact ⟨h1.1, .inl h1.2⟩
  ·have h2 := key.1 h1
   exact ⟨h2.1, .inr h2.2⟩
 ·rintro ⟨h0, h1 | h1⟩
  ·exact .inl ⟨h0, h1⟩
  ·exact .inr (key.2 ⟨h0, h1⟩)
theorem valP_doc {w : World} {P : Pgm} (h : PgR w P) : valP P = (List.range P.fn).map (valuesL P) := by
 unfold valP
 exact List.map_congr_left fun a ha => val_doc h (List.mem_range.1 ha)
theorem refP_doc {w : World} {P : Pgm} (h : PgR w P) : refP P = (List.range P.fn).map (refersL P) := by
 unfold refP
 refine List.map_congr_left fun a ha => ?_
 have ha := List.mem_range.1 ha
 refine tidy_rise (fun x => ?_)
 rw [jRow_two, valP_doc h]
 unfold dirL
 rw [rowOf_map, rowOf_map, if_pos ha, if_pos ha, dir_doc]
 constructor
 ·intro hx
  refine ⟨?_, hx⟩
  rcases List.mem_append.1 hx with h1 | h1
  ·exact (mem_rise.1 h1).1
  ·exact (mem_rise.1 h1).1
 ·exact fun hx => hx.2
/-! ### the program's five answers, as the document says -/
theorem direct_tells (w : World) (P : Pgm) (h : PgR w P) : Calls Tryz.prog 50 #[pgV P] w (RowsA w P.fn ((List.range P.fn).map (directL P))) := by
 have := direct_any w P h
 rwa [show (List.range P.fn).map (fun a => By.tidyRow (gatP P [19, 21] (tlR (P.fn : Int)) a)) = (List.range P.fn).map (directL P) from List.map_congr_left fun a _ => dir_doc P a] at this
theorem vias_tells (w : World) (P : Pgm) (h : PgR w P) : Calls Tryz.prog 51 #[pgV P] w (RowsA w P.fn ((List.range P.fn).map (viasL P))) := by
 have := vias_any w P h
 rwa [show (List.range P.fn).map (fun a => By.tidyRow (gatP P [20] tlV a)) = (List.range P.fn).map (viasL P) from List.map_congr_left fun a _ => via_doc P a] at this
theorem values_tells (w : World) (P : Pgm) (h : PgR w P) : Calls Tryz.prog 47 #[pgV P] w (RowsA w P.fn ((List.range P.fn).map (valuesL P))) := by
 have := values_any w P h
 rwa [valP_doc h] at this
theorem refers_tells (w : World) (P : Pgm) (h : PgR w P) : Calls Tryz.prog 44 #[pgV P] w (RowsA w P.fn ((List.range P.fn).map (refersL P))) := by
 have := refers_any w P h
 rwa [refP_doc h] at this
/-! ### marks -/
def encB (b : Bool) : List Value := [.bool b]
theorem encB_len (z : Bool) : (encB z).length = 1 := rfl
def BL (w : World) (A : Option Addr) (n c : Nat) (l : List Bool) : Prop := Wd 1 encB w w.heap.size A n c l
theorem BL.on {w w' : World} {A : Option Addr} {n c : Nat} {l : List Bool} (h : BL w A n c l) (hb : Below w.heap.size w w') : BL w' A n c l := (Wd.below h hb).more hb.size
theorem BL.at_ {w : World} {A : Option Addr} {n c : Nat} {l : List Bool} (h : BL w A n c l) {i : Nat} (hi : i < n) : ∃ ad, A = some ad ∧ ad.block < w.heap.size ∧ w.cell? (ad.add i) = some (.bool (l.getD i false)) := by
 have hl : i < l.length := by rw [h.1]; exact hi
 obtain ⟨ad, e, hb, hc⟩ := h.2.2.2.2 i (l.getD i false) (by rw [List.getD_eq_getElem?_getD, List.getElem?_eq_getElem hl]; rfl)
 have := hc 0 _ rfl
 rw [Nat.mul_one] at this
 exact ⟨ad, e, hb, by rw [show (ad.add i).add 0 = ad.add i from by unfold Addr.add; simp] at this; exact this⟩
theorem bl_of_slv {w : World} {B : Nat} {A : Option Addr} {n c : Nat} {l : List Bool} (h : SlV w B (.slice A n c) (l.map Value.bool)) (hB : B ≤ w.heap.size) : BL w A n c l := by
 rcases h.inv with ⟨rfl, h1, h2, h3⟩ | ⟨ad, rfl, h1, h2, h3, hr⟩
 ·have hl : l = [] := by simpa using h3
  subst hl h1 h2
  exact Wd.nil
 ·have hl : l.length = n := by rw [h1]; simp
  refine ⟨hl, by omega, h3, (fun e => by cases e), fun i x hi => ⟨ad, rfl, ?_, fun j u hu => ?_⟩⟩
  ·have := (hr i (.bool x) (by simp [hi])).1
   first | exact Nat.lt_of_lt_of_le this hB | (rw [add_block] at this; exact Nat.lt_of_lt_of_le this hB)
  ·rcases j with _ | j
   ·have e : Value.bool x = u := by simpa [encB] using hu
    subst e
    have := (hr i (.bool x) (by simp [hi])).2
    simpa [Addr.add] using this
   ·simp [encB] at hu
def BlA (w : World) (n : Nat) (f : Nat → Bool) (e : Ending) (w' : World) : Prop := ∃ A c, e = .returned (.slice A n c) ∧ BL w' A n c ((List.range n).map f) ∧ Below w.heap.size w w' ∧ ∀ ad, A = some ad → w.heap.size ≤ ad.block
theorem sum_le {l : List Nat} {f : Nat → Nat} {m : Nat} (h : ∀ x ∈ l, f x ≤ m) : (l.map f).sum ≤ l.length * m := by
 induction l with
 | nil => simp
 | cons a l ih =>
  have h1 := h a (by simp)
  have h2 := ih (fun x hx => h x (by simp [hx]))
  simp only [List.map_cons, List.sum_cons, List.length_cons, Nat.succ_mul]
  omega
theorem fuel_few {g : List (List Int)} {k : Nat} (hg : g.length ≤ 24) (hr : ∀ p, (g.getD p []).length ≤ 24) (hk : k ≤ 24) : Gm.fuel g k ≤ 1000000 := by
 have h1 : Gm.out g [] ≤ (List.range g.length).length * 24 := by
  unfold Gm.out
  exact sum_le (fun p _ => by
   split
   ·omega
   ·exact hr p)
 rw [List.length_range] at h1
 have : g.length * 24 ≤ 24 * 24 := Nat.mul_le_mul_right _ hg
 unfold Gm.fuel
 omega
def refG (P : Pgm) : List (List Int) := (List.range P.fn).map (refersL P)
theorem refG_len (P : Pgm) : (refG P).length = P.fn := by unfold refG; simp
theorem rows_at {n : Nat} {f : Nat → List Int} (h : ∀ a, (f a).length ≤ 24) (p : Nat) : (((List.range n).map f).getD p []).length ≤ 24 := by
 rw [List.getD_eq_getElem?_getD, List.getElem?_map]
 by_cases hp : p < n
 ·rw [List.getElem?_range hp]; exact h p
 ·rw [List.getElem?_eq_none (by simp; omega)]; simp
def liveB (P : Pgm) : Nat → Bool := Gm.reach (refG P) [P.entry]
theorem reach_one {W : World} {rb base n : Nat} {L : List (List Int)} {A2 : Option Addr} {c2 : Nat} {z : Int} (h : By.OwnG W rb base 44 3 L) (hL : L.length = n) (hn : n ≤ 24) (hr : ∀ p, (L.getD p []).length ≤ 24) (hF : SlV W W.heap.size (.slice A2 1 c2) (By.ints [z])) :
  Calls Tryz.prog 43 #[.slice (some ⟨rb, 0, none⟩) n n, .slice A2 1 c2] W (BlA W n (Gm.reach L [z])) := by
 subst hL
 refine (By.reach_any (some ⟨rb, 0, none⟩) A2 L.length c2 W.heap.size L [z] W (gr_of h rfl hn) hF (Nat.le_refl _) (by omega) (fuel_few hn hr (by simp))).mono ?_
 rintro e w' ⟨A', rfl, hs, hb, hlo⟩
 refine ⟨A', _, rfl, bl_of_slv (B := w'.heap.size) ?_ (Nat.le_refl _), hb, hlo⟩
 unfold By.reachV at hs
 rw [List.map_map]
 exact hs
set_option maxRecDepth 100000 in
set_option maxHeartbeats 8000000 in
theorem live_any (w : World) (P : Pgm) (h : PgR w P) : Calls Tryz.prog 15 #[pgV P] w (BlA w P.fn (liveB P)) := by
 have HRF := Hd (fun W (hb : Below w.heap.size w W) => refers_tells W P (h.on hb))
 have HRE := Hd (fun W rb base A2 c2 (hg : By.OwnG W rb base 44 3 (refG P)) (hF : SlV W W.heap.size (.slice A2 1 c2) (By.ints [P.entry])) => reach_one hg (refG_len P) h.few.1 (rows_at (fun a => Nat.le_trans (rise_len _ _) h.few.1)) hF)
 have hfn := h.few.1
 unfold liveB
 generalize hf : Gm.reach (refG P) [P.entry] = f at HRE ⊢
 have HRG : Hid (refG P = (List.range P.fn).map (refersL P)) := Hd rfl
 rw [← HRG.out] at HRF
 generalize refG P = L at HRF HRE
 clear h hf HRG
 obtain ⟨fA, fn, fc, fs, dA, dn, dc, ds, en, cs⟩ := P
 unfold pgV at HRF ⊢
 dsimp only at HRF HRE hfn ⊢
 obtain ⟨W0, hW0⟩ : ∃ W0, w.alloc (.cells #[.slice fA fn fc, .slice dA dn dc, .int .i64 en] 29) = W0 := ⟨_, rfl⟩
 have HB0 := Hd (show Below w.heap.size w W0 from by rw [← hW0]; exact alloc_ _ _)
 have HBK := Hd (show Blk W0 w.heap.size 29 #[.slice fA fn fc, .slice dA dn dc, .int .i64 en] from by rw [← hW0]; exact Blk.new _ _ _)
 go_enter Tryz.func15, Tryz.ntmps15
 go_wp2_with fail
 clear hW0
 refine wp_region_noPanic ?_
 refine wp_region_held_drew (S := fun W => W.cell? ⟨w.heap.size, 0, none⟩ = some (.slice fA fn fc) ∧ W.cell? ⟨w.heap.size, 1, none⟩ = some (.slice dA dn dc) ∧ W.cell? ⟨w.heap.size, 2, none⟩ = some (.int .i64 en)) (by kernel_rfl) (⟨HBK.out.cell 0, HBK.out.cell 1, HBK.out.cell 2⟩) (fun hHeld => ?_)
 refine tk3Z 0 2 3 hHeld ?_
 refine wpAnyH_ready (rs := [1, 4]) (by kernel_rfl) (by simp) ?_
 refine AllReadyH.cons rfl (fun K hK => ?_) (AllReadyH.cons rfl (fun K hK => ?_) AllReadyH.nil)
 focus
  go_simp
  refine (HRF.out _ HB0.out.drew).mono ?_; rintro e u1 ⟨rb, base, rfl, hg, hrb, hbs, hb⟩; have HG := Hd hg; have HU := Hd hb; have HBU := Hd (to_ HB0.out.drew hb); clear hg hb hrb hbs
  try go_wp2_with fail
  refine hK.out _ _ ((on3Z hHeld HU.out)) ?_
  clear hK K hHeld
  intro hHeld
  try simp only [Act.put, nmZ]
  refine rd1Z 4 (fun K hK => ?_)
  go_simp
  have HU := Hd (alloc_ (u1) (.cells #[.int .i64 en] 3))
  have HSL := Hd (SlV.new (u1) (By.ints [en]) 3 (by unfold By.ints maxLen; simp))
  refine hK.out _ _ ((on3Z hHeld HU.out)) ?_
  clear hK K hHeld
  intro hHeld
  try simp only [Act.put, nmZ]
  refine rd1Z 5 (fun K hK => ?_)
  go_simp
  refine (HRE.out _ rb base _ _ (ownG_on HG.out (alloc_ _ _)) (HSL.out.more (by simp))).mono ?_; rintro e u2 ⟨A2, c2, rfl, hbl, hb, hlo⟩; have HU := Hd hb; have HF := Hd hbl; have HLO := Hd (fun ad e => Nat.le_trans (Below.size (to_ HBU.out (alloc_ _ _))) (hlo ad e)); have HBF := Hd (to_ (to_ HBU.out (alloc_ _ _)) hb); clear hbl hb hlo
  try go_wp2_with fail
 rotate_left
 focus
  go_simp
  have HU := Hd (alloc_ (W0.drew) (.cells #[.int .i64 en] 3))
  have HSL := Hd (SlV.new (W0.drew) (By.ints [en]) 3 (by unfold By.ints maxLen; simp))
  refine hK.out _ _ ((on3Z hHeld HU.out)) ?_
  clear hK K hHeld
  intro hHeld
  try simp only [Act.put, nmZ]
  refine rd1Z 1 (fun K hK => ?_)
  go_simp
  refine (HRF.out _ (to_ HB0.out.drew (alloc_ _ _))).mono ?_; rintro e u1 ⟨rb, base, rfl, hg, hrb, hbs, hb⟩; have HG := Hd hg; have HU := Hd hb; have HBU := Hd (to_ (to_ HB0.out.drew (alloc_ _ _)) hb); clear hg hb hrb hbs
  try go_wp2_with fail
  refine hK.out _ _ ((on3Z hHeld HU.out)) ?_
  clear hK K hHeld
  intro hHeld
  try simp only [Act.put, nmZ]
  refine rd1Z 5 (fun K hK => ?_)
  go_simp
  refine (HRE.out _ rb base _ _ HG.out ((HSL.out.below (HU.out.mono (by simp))).more (by have h9 := HU.out.size; have h8 : W0.drew.heap.size = W0.heap.size := rfl; simp at h9; omega))).mono ?_; rintro e u2 ⟨A2, c2, rfl, hbl, hb, hlo⟩; have HU := Hd hb; have HF := Hd hbl; have HLO := Hd (fun ad e => Nat.le_trans (Below.size HBU.out) (hlo ad e)); have HBF := Hd (to_ HBU.out hb); clear hbl hb hlo
  try go_wp2_with fail
 rotate_left
 all_goals
  refine hK.out _ _ ((on3Z hHeld HU.out)) ?_
  clear hK K hHeld
  intro hHeld
  try simp only [Act.put, nmZ]
  refine tk1Z 6 hHeld ?_
  refine wpAnyH_done (by kernel_rfl) ?_ _
  refine NoPanic.normal ?_
  go_wp2_with fail
  go_ret
  exact ⟨A2, c2, rfl, HF.out, HBF.out, HLO.out⟩
end Go.Proofs.YtdaimeaofgbfpaaGreat.Bo
