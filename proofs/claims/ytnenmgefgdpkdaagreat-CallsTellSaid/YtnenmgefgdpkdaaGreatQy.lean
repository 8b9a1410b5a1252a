/-
 WALKS of layer 25: Vias, Values.
-/
import Derived.Test.YtnenmgefgdpkdaaGreatZa
import Derived.Test.YtnenmgefgdpkdaaGreatQx
import Derived.Test.YtnenmgefgdpkdaaGreatQt
namespace Go.Proofs.YtnenmgefgdpkdaaGreat.Bo
open Go.RowKit Go.Maps
open Mem Rf
set_option linter.unusedSimpArgs false
set_option linter.unusedVariables false
theorem rowOf_map {n i : Nat} {f : Nat → List Int} : By.rowOf ((List.range n).map f) i = if i < n then f i else [] := by
 unfold By.rowOf
 rw [List.getD_eq_getElem?_getD, List.getElem?_map]
 by_cases h : i < n
 ·rw [List.getElem?_range h, if_pos h]; rfl
 ·rw [if_neg h, List.getElem?_eq_none (by simp; omega)]; rfl
theorem tidyRow_len (l : List Int) : (By.tidyRow l).length ≤ l.length := by
 unfold By.tidyRow
 exact Nat.le_trans (By.compact_le _) (by rw [List.length_mergeSort]; exact Nat.le_refl _)
def namL (P : Pgm) : List (List Int) := (List.range P.fn).map fun a => By.tidyRow (gatP P [17] (tlR (P.fn : Int)) a)
def pkL (P : Pgm) : List (List Int) := (List.range P.fn).map fun a => By.tidyRow (gatP P [18] (tlR (P.dn : Int)) a)
def tbsL (P : Pgm) : List (List Int) := (List.range P.dn).map fun a => By.tidyRow (tabP P a)
def thrL (P : Pgm) : List (List Int) := (List.range P.fn).map fun a => By.tidyRow ((By.rowOf (pkL P) a).flatMap fun x => By.rowOf (tbsL P) x.toNat)
def two (a b : List (List Int)) (q : Nat) : List (List Int) := if q = 0 then a else if q = 1 then b else []
def valP (P : Pgm) : List (List Int) := (List.range P.fn).map fun a => By.tidyRow (jRow (two (namL P) (thrL P)) 2 a)
theorem gat_few {w : World} {P : Pgm} (h : PgR w P) (so : List Int) (tl : By.In5 → Int → Int × Bool) {a : Nat} (ha : a < P.fn) : (gatP P so tl a).length ≤ 80 := by
 have h1 := tgL_len (P.cs a) (gfAt P.fs a).refs (gfAt P.fs a).R.2.1 so tl (gfAt P.fs a).F.code.2.1
 have h2 := ((h.fns a ha).few).1
 unfold gatP; omega
theorem row_few {n b : Nat} {f : Nat → List Int} (h : ∀ a, a < n → (f a).length ≤ b) (i : Nat) : (By.rowOf ((List.range n).map fun a => By.tidyRow (f a)) i).length ≤ b := by
 rw [rowOf_map]
 split
 ·exact Nat.le_trans (tidyRow_len _) (h i (by assumption))
 ·simp
theorem namL_few {w : World} {P : Pgm} (h : PgR w P) (i : Nat) : (By.rowOf (namL P) i).length ≤ 100 := Nat.le_trans (row_few (fun a ha => gat_few h _ _ ha) i) (by omega)
theorem pkL_few {w : World} {P : Pgm} (h : PgR w P) (i : Nat) : (By.rowOf (pkL P) i).length ≤ 100 := Nat.le_trans (row_few (fun a ha => gat_few h _ _ ha) i) (by omega)
theorem tbsL_few {w : World} {P : Pgm} (h : PgR w P) (i : Nat) : (By.rowOf (tbsL P) i).length ≤ 100 := by
 refine Nat.le_trans (row_few (b := 80) (fun a ha => ?_) i) (by omega)
 have h1 := tbL_len (gdAt P.ds a).refs (gdAt P.ds a).R.2.1 (P.fn : Int) (gdAt P.ds a).D.words.2.1
 have h2 := ((h.dats a ha).few).1
 unfold tabP; omega
theorem thrL_few {w : World} {P : Pgm} (h : PgR w P) (i : Nat) : (By.rowOf (thrL P) i).length ≤ 10000 := by
 refine row_few (b := 10000) (fun a ha => ?_) i
 have h1 := thR_len (tbsL P) 100 (tbsL_few h) (By.rowOf (pkL P) a) (By.rowOf (pkL P) a).length
 rw [thR_all] at h1
 have h2 := pkL_few h a
 have : 100 * (By.rowOf (pkL P) a).length ≤ 100 * 100 := Nat.mul_le_mul_left _ h2
 omega
theorem oneB_in {p : Int} {n : Nat} (h : oneB p (n : Int) = true) : ∃ X : Nat, p = (X : Int) ∧ X < n := by
 unfold oneB at h
 rw [Bool.and_eq_true, decide_eq_true_eq, decide_eq_true_eq] at h
 exact ⟨p.toNat, by omega, by omega⟩
theorem tgL_in (cs : List By.In5) (rs : List Int) (nR : Nat) (so : List Int) (m k : Nat) (x : Int) (hx : x ∈ tgL cs rs nR so (tlR (m : Int)) k) : ∃ X : Nat, x = (X : Int) ∧ X < m := by
 unfold tgL at hx
 obtain ⟨j, _, hj⟩ := List.mem_flatMap.1 hx
 unfold tgO tlR at hj
 dsimp only at hj
 split at hj
 ·split at hj
  ·rename_i h2
   rw [List.mem_singleton] at hj
   subst hj
   exact oneB_in h2
  ·cases hj
 ·cases hj
theorem pkL_in (P : Pgm) (i j : Nat) (hj : j < (By.rowOf (pkL P) i).length) : ∃ X : Nat, (By.rowOf (pkL P) i).getD j 0 = (X : Int) ∧ X < P.dn := by
 have hm : (By.rowOf (pkL P) i).getD j 0 ∈ By.rowOf (pkL P) i := by
  rw [List.getD_eq_getElem?_getD, List.getElem?_eq_getElem hj]; exact List.getElem_mem hj
 generalize (By.rowOf (pkL P) i).getD j 0 = x at hm ⊢
 clear hj
 unfold pkL at hm
 rw [rowOf_map] at hm
 split at hm
 ·rw [By.mem_tidyRow] at hm
  unfold gatP at hm
  exact tgL_in _ _ _ _ _ _ _ hm
 ·cases hm
theorem gr_of {w : World} {rb base n : Nat} {L : List (List Int)} (h : By.OwnG w rb base 42 3 L) (hL : L.length = n) (hn : n ≤ 24) : By.Gr w w.heap.size (.slice (some ⟨rb, 0, none⟩) n n) L := by
 subst hL
 exact h.gr _ (Nat.le_refl _) (by unfold maxLen; omega)
theorem gr_on {w w' : World} {v : Value} {L : List (List Int)} (h : By.Gr w w.heap.size v L) (hb : Below w.heap.size w w') : By.Gr w' w'.heap.size v L := (h.below hb).more hb.size
/-- Two parts that lie in a row are joined. -/
theorem join_two (W : World) (pb n : Nat) (A0 A1 : Option Addr) (c0 c1 : Nat) (L0 L1 : List (List Int)) (hn : n ≤ 24) (hB : Blk W pb 38 #[.slice A0 n c0, .slice A1 n c1]) (g0 : By.Gr W W.heap.size (.slice A0 n c0) L0) (g1 : By.Gr W W.heap.size (.slice A1 n c1) L1)
  (l0 : L0.length = n) (l1 : L1.length = n) (f0 : ∀ i, (By.rowOf L0 i).length ≤ 10000) (f1 : ∀ i, (By.rowOf L1 i).length ≤ 10000) :
  Calls Tryz.prog 59 #[.slice (some ⟨pb, 0, none⟩) 2 2] W (RowsA W n ((List.range n).map fun a => By.tidyRow (jRow (two L0 L1) 2 a))) := by
 refine join_any W pb 2 n (two L0 L1) (by omega) hn (fun q i => ?_) (fun V hb p hp => ?_)
 ·unfold two
  split
  ·exact f0 i
  ·split
   ·exact f1 i
   ·simp [By.rowOf]
 ·have hBV : Blk V pb 38 #[.slice A0 n c0, .slice A1 n c1] := hB.below hb hB.lt
  rcases p with _ | p
  ·exact ⟨A0, c0, hBV.cell 0, by unfold two; rw [if_pos rfl]; exact g0.below hb, by unfold two; rw [if_pos rfl]; exact l0⟩
  ·obtain rfl : p = 0 := by omega
   exact ⟨A1, c1, hBV.cell 1, by unfold two; rw [if_neg (by omega), if_pos rfl]; exact g1.below hb, by unfold two; rw [if_neg (by omega), if_pos rfl]; exact l1⟩
set_option maxRecDepth 100000 in
set_option maxHeartbeats 8000000 in
theorem vias_any (w : World) (P : Pgm) (h : PgR w P) : Calls Tryz.prog 21 #[pgV P] w (RowsA w P.fn ((List.range P.fn).map fun a => By.tidyRow (gatP P [20] tlV a))) := by
 have HGA := Lib.hid (fun W (hb : Below w.heap.size w W) gs (hs : Blk W gs 3 #[.int .i64 20]) =>
  gatherV_any W P (h.on hb) _ 1 1 [20] (il_blk (l := [20]) hs (by unfold maxLen; simp)) (by omega) gs 0 rfl)
 obtain ⟨Q, hQ⟩ : ∃ Q, (List.range P.fn).map (fun a => By.tidyRow (gatP P [20] tlV a)) = Q := ⟨_, rfl⟩
 rw [hQ] at HGA ⊢
 clear h hQ
 obtain ⟨fA, fn, fc, fs, dA, dn, dc, ds, en, cs⟩ := P
 unfold pgV at HGA ⊢
 dsimp only at HGA ⊢
 obtain ⟨W0, hW0⟩ : ∃ W0, w.alloc (.cells #[.slice fA fn fc, .slice dA dn dc, .int .i64 en] 29) = W0 := ⟨_, rfl⟩
 have HBW := Lib.hid (show Below w.heap.size w W0 from by rw [← hW0]; exact alloc_ _ _)
 have HP0 := Lib.hid (show Blk W0 w.heap.size 29 #[.slice fA fn fc, .slice dA dn dc, .int .i64 en] from by rw [← hW0]; exact Blk.new _ _ _)
 have b0 : W0.cell? ⟨w.heap.size, 0, none⟩ = some (.slice fA fn fc) := HP0.out.cell 0
 have b1 : W0.cell? ⟨w.heap.size, 1, none⟩ = some (.slice dA dn dc) := HP0.out.cell 1
 have b2 : W0.cell? ⟨w.heap.size, 2, none⟩ = some (.int .i64 en) := HP0.out.cell 2
 go_enter Tryz.func21, Tryz.ntmps21
 go_wp2_with (go_at_call 52; refine (HGA.out _ (to_ HBW.out (alloc_ _ _)) _ (Blk.new _ _ _)).mono ?_; rintro e w4 ⟨rb, base, rfl, ho, hlb, hbb, hbl⟩; have HO := Lib.hid ho; have HLB := Lib.hid hlb; have HBB := Lib.hid hbb; have HBL := Lib.hid hbl; clear ho hlb hbb hbl)
 go_ret
 exact RowsA.lift ⟨_, _, rfl, HO.out, HLB.out, HBB.out, HBL.out⟩ (to_ HBW.out (alloc_ _ _))
set_option maxRecDepth 100000 in
set_option maxHeartbeats 8000000 in
theorem values_any (w : World) (P : Pgm) (h : PgR w P) : Calls Tryz.prog 19 #[pgV P] w (RowsA w P.fn (valP P)) := by
 have hfn := h.few.1
 have hdn := h.few.2
 have HGA := Lib.hid (fun W (hb : Below w.heap.size w W) g9 (hg : W.cell? ⟨g9, 0, none⟩ = some (.int .i64 (P.fn : Int))) gs (hs : Blk W gs 3 #[.int .i64 17]) =>
  show Calls _ _ _ _ (RowsA W P.fn (namL P)) from gatherR_any W P (h.on hb) g9 (P.fn : Int) hg _ 1 1 [17] (il_blk (l := [17]) hs (by unfold maxLen; simp)) (by omega) gs 0 rfl)
 have HGB := Lib.hid (fun W (hb : Below w.heap.size w W) g9 (hg : W.cell? ⟨g9, 0, none⟩ = some (.int .i64 (P.dn : Int))) gs (hs : Blk W gs 3 #[.int .i64 18]) =>
  show Calls _ _ _ _ (RowsA W P.fn (pkL P)) from gatherR_any W P (h.on hb) g9 (P.dn : Int) hg _ 1 1 [18] (il_blk (l := [18]) hs (by unfold maxLen; simp)) (by omega) gs 0 rfl)
 have HTB := Lib.hid (fun W (hb : Below w.heap.size w W) => show Calls _ _ _ _ (RowsA W P.dn (tbsL P)) from tables_any W P (h.on hb))
 have HN1 := Lib.hid (show (namL P).length = P.fn from by simp [namL])
 have HN2 := Lib.hid (show (pkL P).length = P.fn from by simp [pkL])
 have HN3 := Lib.hid (show (tbsL P).length = P.dn from by simp [tbsL])
 have HN4 := Lib.hid (show (thrL P).length = P.fn from by simp [thrL])
 have HTH := Lib.hid (fun W A c tA tc (g1 : By.Gr W W.heap.size (.slice A P.fn c) (pkL P)) (g2 : By.Gr W W.heap.size (.slice tA P.dn tc) (tbsL P)) =>
  show Calls _ _ _ _ (RowsA W P.fn (thrL P)) from through_any W P.fn P.dn A tA c tc (pkL P) (tbsL P) hfn HN2.out HN3.out g1 g2 (pkL_few h) (tbsL_few h) (pkL_in P))
 have HJO := Lib.hid (fun W pb A0 A1 c0 c1 (hB : Blk W pb 38 #[.slice A0 P.fn c0, .slice A1 P.fn c1]) (g0 : By.Gr W W.heap.size (.slice A0 P.fn c0) (namL P)) (g1 : By.Gr W W.heap.size (.slice A1 P.fn c1) (thrL P)) =>
  show Calls _ _ _ _ (RowsA W P.fn (valP P)) from join_two W pb P.fn A0 A1 c0 c1 (namL P) (thrL P) hfn hB g0 g1 HN1.out HN4.out (fun i => Nat.le_trans (namL_few h i) (by omega)) (thrL_few h))
 have HRF := Lib.hid (fun m W => referred_any m W)
 obtain ⟨Q1, hQ1⟩ : ∃ Q, namL P = Q := ⟨_, rfl⟩
 obtain ⟨Q2, hQ2⟩ : ∃ Q, pkL P = Q := ⟨_, rfl⟩
 obtain ⟨Q3, hQ3⟩ : ∃ Q, tbsL P = Q := ⟨_, rfl⟩
 obtain ⟨Q4, hQ4⟩ : ∃ Q, thrL P = Q := ⟨_, rfl⟩
 obtain ⟨Q5, hQ5⟩ : ∃ Q, valP P = Q := ⟨_, rfl⟩
 rw [hQ1] at HGA HN1 HJO
 rw [hQ2] at HGB HN2 HTH
 rw [hQ3] at HTB HN3 HTH
 rw [hQ4] at HN4 HTH HJO
 rw [hQ5] at HJO ⊢
 clear h hQ1 hQ2 hQ3 hQ4 hQ5
 obtain ⟨fA, fn, fc, fs, dA, dn, dc, ds, en, cs⟩ := P
 unfold pgV at HGA HGB HTB ⊢
 dsimp only at HGA HGB HTB HTH HJO HN1 HN2 HN3 HN4 hfn hdn ⊢
 obtain ⟨W0, hW0⟩ : ∃ W0, w.alloc (.cells #[.slice fA fn fc, .slice dA dn dc, .int .i64 en] 29) = W0 := ⟨_, rfl⟩
 have HBW := Lib.hid (show Below w.heap.size w W0 from by rw [← hW0]; exact alloc_ _ _)
 have HP0 := Lib.hid (show Blk W0 w.heap.size 29 #[.slice fA fn fc, .slice dA dn dc, .int .i64 en] from by rw [← hW0]; exact Blk.new _ _ _)
 have b0 : W0.cell? ⟨w.heap.size, 0, none⟩ = some (.slice fA fn fc) := HP0.out.cell 0
 have b1 : W0.cell? ⟨w.heap.size, 1, none⟩ = some (.slice dA dn dc) := HP0.out.cell 1
 have b2 : W0.cell? ⟨w.heap.size, 2, none⟩ = some (.int .i64 en) := HP0.out.cell 2
 go_enter Tryz.func19, Tryz.ntmps19
 go_wp2_with fail
 clear hW0 HP0
 refine wp_region_noPanic ?_
 refine wp_region_held_drew (S := fun W => W.cell? ⟨w.heap.size, 0, none⟩ = some (.slice fA fn fc) ∧ W.cell? ⟨w.heap.size, 1, none⟩ = some (.slice dA dn dc) ∧ W.cell? ⟨w.heap.size, 2, none⟩ = some (.int .i64 en)) (by kernel_rfl) (⟨b0, b1, b2⟩) (fun hHeld => ?_)
 clear b0 b1 b2
 refine tkZ 0 rfl hHeld ?_
 try simp only [Act.put, nmZ]
 refine tkZ 1 rfl hHeld ?_
 try simp only [Act.put, nmZ]
 refine tkZ 2 rfl hHeld ?_
 try simp only [Act.put, nmZ]
 refine tkZ 3 rfl hHeld ?_
 try simp only [Act.put, nmZ]
 refine wpAnyH_ready (rs := [4, 5]) (by kernel_rfl) (by simp) ?_
 refine AllReadyH.cons rfl (fun K hK => ?_) (AllReadyH.cons rfl (fun K hK => ?_) AllReadyH.nil)
 ·go_simp
  refine (HRF.out _ _).mono ?_
  rintro e w31 ⟨rfl, hw3⟩
  have HB1 := Lib.hid (show Below W0.drew.heap.size W0.drew w31 from by rw [hw3]; exact alloc_ _ _)
  have HC1 := Lib.hid (show w31.cell? ⟨W0.heap.size, 0, none⟩ = some (.int .i64 ((fn : Nat) : Int)) from by rw [hw3]; exact (Blk.new W0.drew 3 #[.int .i64 ((fn : Nat) : Int)]).cell 0)
  clear hw3
  try go_wp2_with fail
  refine hK.out _ _ (cq3 hHeld HB1.out) ?_
  clear hK K hHeld
  intro hHeld
  try simp only [Act.put, nmZ]
  refine rdZ 5 rfl (fun K hK => ?_)
  go_simp
  refine hK.out _ _ (cq3 hHeld (alloc_ _ _)) ?_
  clear hK K hHeld
  intro hHeld
  try simp only [Act.put, nmZ]
  refine rdZ 6 rfl (fun K hK => ?_)
  go_simp
  refine (HGA.out _ (to_ (to_ HBW.out.drew HB1.out) (alloc_ _ _)) _ (cell_on HC1.out (alloc_ _ _)) _ (Blk.new _ _ _)).mono ?_
  rintro e w41 ⟨rb1, base1, rfl, ho, hlb, hbb, hbl⟩
  have HO1 := Lib.hid ho
  have HBB1 := Lib.hid hbb
  have HBL1 := Lib.hid hbl
  have HBN1 := Lib.hid (to_ (to_ (to_ HBW.out.drew HB1.out) (alloc_ _ _)) hbl)
  have HLR1 := Lib.hid (Nat.le_trans ((to_ (to_ HBW.out.drew HB1.out) (alloc_ _ _))).size hlb)
  clear ho hlb hbb hbl
  try go_wp2_with fail
  refine hK.out _ _ (cq3 hHeld HBL1.out) ?_
  clear hK K hHeld
  intro hHeld
  try simp only [Act.put, nmZ]
  refine rdZ 7 rfl (fun K hK => ?_)
  go_simp
  refine hK.out _ _ (hHeld) ?_
  clear hK K hHeld
  intro hHeld
  try simp only [Act.put, nmZ]
  refine wpAnyH_done (by kernel_rfl) ?_ _
  refine NoPanic.normal ?_
  obtain ⟨b0, b1, b2⟩ := hHeld
  go_wp2_with fail
  refine wp_region_noPanic ?_
  refine wp_region_held_drew (S := fun W => W.cell? ⟨w.heap.size, 0, none⟩ = some (.slice fA fn fc) ∧ W.cell? ⟨w.heap.size, 1, none⟩ = some (.slice dA dn dc) ∧ W.cell? ⟨w.heap.size, 2, none⟩ = some (.int .i64 en)) (by kernel_rfl) (⟨b0, b1, b2⟩) (fun hHeld => ?_)
  clear b0 b1 b2
  refine tkZ 0 rfl hHeld ?_
  try simp only [Act.put, nmZ]
  refine tkZ 1 rfl hHeld ?_
  try simp only [Act.put, nmZ]
  refine tkZ 2 rfl hHeld ?_
  try simp only [Act.put, nmZ]
  refine tkZ 3 rfl hHeld ?_
  try simp only [Act.put, nmZ]
  refine wpAnyH_ready (rs := [4, 5]) (by kernel_rfl) (by simp) ?_
  refine AllReadyH.cons rfl (fun K hK => ?_) (AllReadyH.cons rfl (fun K hK => ?_) AllReadyH.nil)
  ·go_simp
   refine (HRF.out _ _).mono ?_
   rintro e w32 ⟨rfl, hw3⟩
   have HB1 := Lib.hid (show Below w41.drew.heap.size w41.drew w32 from by rw [hw3]; exact alloc_ _ _)
   have HC1 := Lib.hid (show w32.cell? ⟨w41.heap.size, 0, none⟩ = some (.int .i64 ((dn : Nat) : Int)) from by rw [hw3]; exact (Blk.new w41.drew 3 #[.int .i64 ((dn : Nat) : Int)]).cell 0)
   clear hw3
   try go_wp2_with fail
   refine hK.out _ _ (cq3 hHeld HB1.out) ?_
   clear hK K hHeld
   intro hHeld
   try simp only [Act.put, nmZ]
   refine rdZ 5 rfl (fun K hK => ?_)
   go_simp
   refine hK.out _ _ (cq3 hHeld (alloc_ _ _)) ?_
   clear hK K hHeld
   intro hHeld
   try simp only [Act.put, nmZ]
   refine rdZ 6 rfl (fun K hK => ?_)
   go_simp
   refine (HGB.out _ (to_ (to_ HBN1.out.drew HB1.out) (alloc_ _ _)) _ (cell_on HC1.out (alloc_ _ _)) _ (Blk.new _ _ _)).mono ?_
   rintro e w42 ⟨rb2, base2, rfl, ho, hlb, hbb, hbl⟩
   have HO2 := Lib.hid ho
   have HBB2 := Lib.hid hbb
   have HBL2 := Lib.hid hbl
   have HBX := Lib.hid (show Below w41.heap.size w41 w42 from to_ (to_ (to_ (Below.refl _ _).drew HB1.out) (alloc_ _ _)) hbl)
   have HBN2 := Lib.hid (to_ (to_ (to_ HBN1.out.drew HB1.out) (alloc_ _ _)) hbl)
   have HLR2 := Lib.hid (Nat.le_trans ((to_ (to_ HBN1.out.drew HB1.out) (alloc_ _ _))).size hlb)
   clear ho hlb hbb hbl
   try go_wp2_with fail
   refine hK.out _ _ (cq3 hHeld HBL2.out) ?_
   clear hK K hHeld
   intro hHeld
   try simp only [Act.put, nmZ]
   refine rdZ 7 rfl (fun K hK => ?_)
   go_simp
   refine hK.out _ _ (hHeld) ?_
   clear hK K hHeld
   intro hHeld
   try simp only [Act.put, nmZ]
   refine wpAnyH_done (by kernel_rfl) ?_ _
   refine NoPanic.normal ?_
   obtain ⟨b0, b1, b2⟩ := hHeld
   have HG1 := Lib.hid (gr_on (gr_of HO1.out HN1.out hfn) HBX.out)
   have HG2 := Lib.hid (gr_of HO2.out HN2.out hfn)
   go_wp2_with (first | (go_at_call 61; refine (HTB.out _ HBN2.out).mono ?_; rintro e w8 ⟨rb8, base8, rfl, ho8, _, _, hbl8⟩; have HG3 := Lib.hid (gr_of ho8 HN3.out hdn); have HG12 := Lib.hid (gr_on HG1.out hbl8); have HG22 := Lib.hid (gr_on HG2.out hbl8); have HB8 := Lib.hid hbl8; clear ho8 hbl8) | (go_at_call 60; refine (HTH.out _ _ _ _ _ HG22.out HG3.out).mono ?_; rintro e w9 ⟨rb9, base9, rfl, ho9, _, _, hbl9⟩; have HG4 := Lib.hid (gr_of ho9 HN4.out hfn); have HG13 := Lib.hid (gr_on HG12.out hbl9); have HB9 := Lib.hid hbl9; clear ho9 hbl9) | (go_at_call 59; refine (HJO.out _ _ _ _ _ _ (Blk.new _ _ _) (gr_on HG13.out (alloc_ _ _)) (gr_on HG4.out (alloc_ _ _))).mono ?_; rintro e w10 ⟨rb10, base10, rfl, ho10, hlb10, hbb10, hbl10⟩; have HO10 := Lib.hid ho10; have HLB10 := Lib.hid hlb10; have HBB10 := Lib.hid hbb10; have HBL10 := Lib.hid hbl10; clear ho10 hlb10 hbb10 hbl10))
   go_ret
   exact RowsA.lift ⟨_, _, rfl, HO10.out, HLB10.out, HBB10.out, HBL10.out⟩ (to_ (to_ (to_ HBN2.out HB8.out) HB9.out) (alloc_ _ _))
  ·go_simp
   refine hK.out _ _ (cq3 hHeld (alloc_ _ _)) ?_
   clear hK K hHeld
   intro hHeld
   try simp only [Act.put, nmZ]
   refine rdZ 4 rfl (fun K hK => ?_)
   go_simp
   refine (HRF.out _ _).mono ?_
   rintro e w32 ⟨rfl, hw3⟩
   have HB0 := Lib.hid (alloc_ w41.drew (.cells #[.int .i64 18] 3))
   have HB1 := Lib.hid (show Below (w41.drew.alloc (.cells #[.int .i64 18] 3)).heap.size (w41.drew.alloc (.cells #[.int .i64 18] 3)) w32 from by rw [hw3]; exact alloc_ _ _)
   have HC1 := Lib.hid (show w32.cell? ⟨(w41.drew.alloc (.cells #[.int .i64 18] 3)).heap.size, 0, none⟩ = some (.int .i64 ((dn : Nat) : Int)) from by rw [hw3]; exact (Blk.new _ 3 #[.int .i64 ((dn : Nat) : Int)]).cell 0)
   have HA1 := Lib.hid (show Blk w32 w41.heap.size 3 #[.int .i64 18] from by rw [hw3]; exact (Blk.new w41.drew 3 #[.int .i64 18]).alloc _)
   clear hw3
   try go_wp2_with fail
   refine hK.out _ _ (cq3 hHeld HB1.out) ?_
   clear hK K hHeld
   intro hHeld
   try simp only [Act.put, nmZ]
   refine rdZ 6 rfl (fun K hK => ?_)
   go_simp
   refine (HGB.out _ (to_ (to_ HBN1.out.drew HB0.out) HB1.out) _ (by first | exact HC1.out | simpa using HC1.out) _ HA1.out).mono ?_
   rintro e w42 ⟨rb2, base2, rfl, ho, hlb, hbb, hbl⟩
   have HO2 := Lib.hid ho
   have HBB2 := Lib.hid hbb
   have HBL2 := Lib.hid hbl
   have HBX := Lib.hid (show Below w41.heap.size w41 w42 from to_ (to_ (to_ (Below.refl _ _).drew HB0.out) HB1.out) hbl)
   have HBN2 := Lib.hid (to_ (to_ (to_ HBN1.out.drew HB0.out) HB1.out) hbl)
   have HLR2 := Lib.hid (Nat.le_trans ((to_ (to_ HBN1.out.drew HB0.out) HB1.out)).size hlb)
   clear ho hlb hbb hbl
   try go_wp2_with fail
   refine hK.out _ _ (cq3 hHeld HBL2.out) ?_
   clear hK K hHeld
   intro hHeld
   try simp only [Act.put, nmZ]
   refine rdZ 7 rfl (fun K hK => ?_)
   go_simp
   refine hK.out _ _ (hHeld) ?_
   clear hK K hHeld
   intro hHeld
   try simp only [Act.put, nmZ]
   refine wpAnyH_done (by kernel_rfl) ?_ _
   refine NoPanic.normal ?_
   obtain ⟨b0, b1, b2⟩ := hHeld
   have HG1 := Lib.hid (gr_on (gr_of HO1.out HN1.out hfn) HBX.out)
   have HG2 := Lib.hid (gr_of HO2.out HN2.out hfn)
   go_wp2_with (first | (go_at_call 61; refine (HTB.out _ HBN2.out).mono ?_; rintro e w8 ⟨rb8, base8, rfl, ho8, _, _, hbl8⟩; have HG3 := Lib.hid (gr_of ho8 HN3.out hdn); have HG12 := Lib.hid (gr_on HG1.out hbl8); have HG22 := Lib.hid (gr_on HG2.out hbl8); have HB8 := Lib.hid hbl8; clear ho8 hbl8) | (go_at_call 60; refine (HTH.out _ _ _ _ _ HG22.out HG3.out).mono ?_; rintro e w9 ⟨rb9, base9, rfl, ho9, _, _, hbl9⟩; have HG4 := Lib.hid (gr_of ho9 HN4.out hfn); have HG13 := Lib.hid (gr_on HG12.out hbl9); have HB9 := Lib.hid hbl9; clear ho9 hbl9) | (go_at_call 59; refine (HJO.out _ _ _ _ _ _ (Blk.new _ _ _) (gr_on HG13.out (alloc_ _ _)) (gr_on HG4.out (alloc_ _ _))).mono ?_; rintro e w10 ⟨rb10, base10, rfl, ho10, hlb10, hbb10, hbl10⟩; have HO10 := Lib.hid ho10; have HLB10 := Lib.hid hlb10; have HBB10 := Lib.hid hbb10; have HBL10 := Lib.hid hbl10; clear ho10 hlb10 hbb10 hbl10))
   go_ret
   exact RowsA.lift ⟨_, _, rfl, HO10.out, HLB10.out, HBB10.out, HBL10.out⟩ (to_ (to_ (to_ HBN2.out HB8.out) HB9.out) (alloc_ _ _))
 ·go_simp
  refine hK.out _ _ (cq3 hHeld (alloc_ _ _)) ?_
  clear hK K hHeld
  intro hHeld
  try simp only [Act.put, nmZ]
  refine rdZ 4 rfl (fun K hK => ?_)
  go_simp
  refine (HRF.out _ _).mono ?_
  rintro e w31 ⟨rfl, hw3⟩
  have HB0 := Lib.hid (alloc_ W0.drew (.cells #[.int .i64 17] 3))
  have HB1 := Lib.hid (show Below (W0.drew.alloc (.cells #[.int .i64 17] 3)).heap.size (W0.drew.alloc (.cells #[.int .i64 17] 3)) w31 from by rw [hw3]; exact alloc_ _ _)
  have HC1 := Lib.hid (show w31.cell? ⟨(W0.drew.alloc (.cells #[.int .i64 17] 3)).heap.size, 0, none⟩ = some (.int .i64 ((fn : Nat) : Int)) from by rw [hw3]; exact (Blk.new _ 3 #[.int .i64 ((fn : Nat) : Int)]).cell 0)
  have HA1 := Lib.hid (show Blk w31 W0.heap.size 3 #[.int .i64 17] from by rw [hw3]; exact (Blk.new W0.drew 3 #[.int .i64 17]).alloc _)
  clear hw3
  try go_wp2_with fail
  refine hK.out _ _ (cq3 hHeld HB1.out) ?_
  clear hK K hHeld
  intro hHeld
  try simp only [Act.put, nmZ]
  refine rdZ 6 rfl (fun K hK => ?_)
  go_simp
  refine (HGA.out _ (to_ (to_ HBW.out.drew HB0.out) HB1.out) _ (by first | exact HC1.out | simpa using HC1.out) _ HA1.out).mono ?_
  rintro e w41 ⟨rb1, base1, rfl, ho, hlb, hbb, hbl⟩
  have HO1 := Lib.hid ho
  have HBB1 := Lib.hid hbb
  have HBL1 := Lib.hid hbl
  have HBN1 := Lib.hid (to_ (to_ (to_ HBW.out.drew HB0.out) HB1.out) hbl)
  have HLR1 := Lib.hid (Nat.le_trans ((to_ (to_ HBW.out.drew HB0.out) HB1.out)).size hlb)
  clear ho hlb hbb hbl
  try go_wp2_with fail
  refine hK.out _ _ (cq3 hHeld HBL1.out) ?_
  clear hK K hHeld
  intro hHeld
  try simp only [Act.put, nmZ]
  refine rdZ 7 rfl (fun K hK => ?_)
  go_simp
  refine hK.out _ _ (hHeld) ?_
  clear hK K hHeld
  intro hHeld
  try simp only [Act.put, nmZ]
  refine wpAnyH_done (by kernel_rfl) ?_ _
  refine NoPanic.normal ?_
  obtain ⟨b0, b1, b2⟩ := hHeld
  go_wp2_with fail
  refine wp_region_noPanic ?_
  refine wp_region_held_drew (S := fun W => W.cell? ⟨w.heap.size, 0, none⟩ = some (.slice fA fn fc) ∧ W.cell? ⟨w.heap.size, 1, none⟩ = some (.slice dA dn dc) ∧ W.cell? ⟨w.heap.size, 2, none⟩ = some (.int .i64 en)) (by kernel_rfl) (⟨b0, b1, b2⟩) (fun hHeld => ?_)
  clear b0 b1 b2
  refine tkZ 0 rfl hHeld ?_
  try simp only [Act.put, nmZ]
  refine tkZ 1 rfl hHeld ?_
  try simp only [Act.put, nmZ]
  refine tkZ 2 rfl hHeld ?_
  try simp only [Act.put, nmZ]
  refine tkZ 3 rfl hHeld ?_
  try simp only [Act.put, nmZ]
  refine wpAnyH_ready (rs := [4, 5]) (by kernel_rfl) (by simp) ?_
  refine AllReadyH.cons rfl (fun K hK => ?_) (AllReadyH.cons rfl (fun K hK => ?_) AllReadyH.nil)
  ·go_simp
   refine (HRF.out _ _).mono ?_
   rintro e w32 ⟨rfl, hw3⟩
   have HB1 := Lib.hid (show Below w41.drew.heap.size w41.drew w32 from by rw [hw3]; exact alloc_ _ _)
   have HC1 := Lib.hid (show w32.cell? ⟨w41.heap.size, 0, none⟩ = some (.int .i64 ((dn : Nat) : Int)) from by rw [hw3]; exact (Blk.new w41.drew 3 #[.int .i64 ((dn : Nat) : Int)]).cell 0)
   clear hw3
   try go_wp2_with fail
   refine hK.out _ _ (cq3 hHeld HB1.out) ?_
   clear hK K hHeld
   intro hHeld
   try simp only [Act.put, nmZ]
   refine rdZ 5 rfl (fun K hK => ?_)
   go_simp
   refine hK.out _ _ (cq3 hHeld (alloc_ _ _)) ?_
   clear hK K hHeld
   intro hHeld
   try simp only [Act.put, nmZ]
   refine rdZ 6 rfl (fun K hK => ?_)
   go_simp
   refine (HGB.out _ (to_ (to_ HBN1.out.drew HB1.out) (alloc_ _ _)) _ (cell_on HC1.out (alloc_ _ _)) _ (Blk.new _ _ _)).mono ?_
   rintro e w42 ⟨rb2, base2, rfl, ho, hlb, hbb, hbl⟩
   have HO2 := Lib.hid ho
   have HBB2 := Lib.hid hbb
   have HBL2 := Lib.hid hbl
   have HBX := Lib.hid (show Below w41.heap.size w41 w42 from to_ (to_ (to_ (Below.refl _ _).drew HB1.out) (alloc_ _ _)) hbl)
   have HBN2 := Lib.hid (to_ (to_ (to_ HBN1.out.drew HB1.out) (alloc_ _ _)) hbl)
   have HLR2 := Lib.hid (Nat.le_trans ((to_ (to_ HBN1.out.drew HB1.out) (alloc_ _ _))).size hlb)
   clear ho hlb hbb hbl
   try go_wp2_with fail
   refine hK.out _ _ (cq3 hHeld HBL2.out) ?_
   clear hK K hHeld
   intro hHeld
   try simp only [Act.put, nmZ]
   refine rdZ 7 rfl (fun K hK => ?_)
   go_simp
   refine hK.out _ _ (hHeld) ?_
   clear hK K hHeld
   intro hHeld
   try simp only [Act.put, nmZ]
   refine wpAnyH_done (by kernel_rfl) ?_ _
   refine NoPanic.normal ?_
   obtain ⟨b0, b1, b2⟩ := hHeld
   have HG1 := Lib.hid (gr_on (gr_of HO1.out HN1.out hfn) HBX.out)
   have HG2 := Lib.hid (gr_of HO2.out HN2.out hfn)
   go_wp2_with (first | (go_at_call 61; refine (HTB.out _ HBN2.out).mono ?_; rintro e w8 ⟨rb8, base8, rfl, ho8, _, _, hbl8⟩; have HG3 := Lib.hid (gr_of ho8 HN3.out hdn); have HG12 := Lib.hid (gr_on HG1.out hbl8); have HG22 := Lib.hid (gr_on HG2.out hbl8); have HB8 := Lib.hid hbl8; clear ho8 hbl8) | (go_at_call 60; refine (HTH.out _ _ _ _ _ HG22.out HG3.out).mono ?_; rintro e w9 ⟨rb9, base9, rfl, ho9, _, _, hbl9⟩; have HG4 := Lib.hid (gr_of ho9 HN4.out hfn); have HG13 := Lib.hid (gr_on HG12.out hbl9); have HB9 := Lib.hid hbl9; clear ho9 hbl9) | (go_at_call 59; refine (HJO.out _ _ _ _ _ _ (Blk.new _ _ _) (gr_on HG13.out (alloc_ _ _)) (gr_on HG4.out (alloc_ _ _))).mono ?_; rintro e w10 ⟨rb10, base10, rfl, ho10, hlb10, hbb10, hbl10⟩; have HO10 := Lib.hid ho10; have HLB10 := Lib.hid hlb10; have HBB10 := Lib.hid hbb10; have HBL10 := Lib.hid hbl10; clear ho10 hlb10 hbb10 hbl10))
   go_ret
   exact RowsA.lift ⟨_, _, rfl, HO10.out, HLB10.out, HBB10.out, HBL10.out⟩ (to_ (to_ (to_ HBN2.out HB8.out) HB9.out) (alloc_ _ _))
  ·go_simp
   refine hK.out _ _ (cq3 hHeld (alloc_ _ _)) ?_
   clear hK K hHeld
   intro hHeld
   try simp only [Act.put, nmZ]
   refine rdZ 4 rfl (fun K hK => ?_)
   go_simp
   refine (HRF.out _ _).mono ?_
   rintro e w32 ⟨rfl, hw3⟩
   have HB0 := Lib.hid (alloc_ w41.drew (.cells #[.int .i64 18] 3))
   have HB1 := Lib.hid (show Below (w41.drew.alloc (.cells #[.int .i64 18] 3)).heap.size (w41.drew.alloc (.cells #[.int .i64 18] 3)) w32 from by rw [hw3]; exact alloc_ _ _)
   have HC1 := Lib.hid (show w32.cell? ⟨(w41.drew.alloc (.cells #[.int .i64 18] 3)).heap.size, 0, none⟩ = some (.int .i64 ((dn : Nat) : Int)) from by rw [hw3]; exact (Blk.new _ 3 #[.int .i64 ((dn : Nat) : Int)]).cell 0)
   have HA1 := Lib.hid (show Blk w32 w41.heap.size 3 #[.int .i64 18] from by rw [hw3]; exact (Blk.new w41.drew 3 #[.int .i64 18]).alloc _)
   clear hw3
   try go_wp2_with fail
   refine hK.out _ _ (cq3 hHeld HB1.out) ?_
   clear hK K hHeld
   intro hHeld
   try simp only [Act.put, nmZ]
   refine rdZ 6 rfl (fun K hK => ?_)
   go_simp
   refine (HGB.out _ (to_ (to_ HBN1.out.drew HB0.out) HB1.out) _ (by first | exact HC1.out | simpa using HC1.out) _ HA1.out).mono ?_
   rintro e w42 ⟨rb2, base2, rfl, ho, hlb, hbb, hbl⟩
   have HO2 := Lib.hid ho
   have HBB2 := Lib.hid hbb
   have HBL2 := Lib.hid hbl
   have HBX := Lib.hid (show Below w41.heap.size w41 w42 from to_ (to_ (to_ (Below.refl _ _).drew HB0.out) HB1.out) hbl)
   have HBN2 := Lib.hid (to_ (to_ (to_ HBN1.out.drew HB0.out) HB1.out) hbl)
   have HLR2 := Lib.hid (Nat.le_trans ((to_ (to_ HBN1.out.drew HB0.out) HB1.out)).size hlb)
   clear ho hlb hbb hbl
   try go_wp2_with fail
   refine hK.out _ _ (cq3 hHeld HBL2.out) ?_
   clear hK K hHeld
   intro hHeld
   try simp only [Act.put, nmZ]
   refine rdZ 7 rfl (fun K hK => ?_)
   go_simp
   refine hK.out _ _ (hHeld) ?_
   clear hK K hHeld
   intro hHeld
   try simp only [Act.put, nmZ]
   refine wpAnyH_done (by kernel_rfl) ?_ _
   refine NoPanic.normal ?_
   obtain ⟨b0, b1, b2⟩ := hHeld
   have HG1 := Lib.hid (gr_on (gr_of HO1.out HN1.out hfn) HBX.out)
   have HG2 := Lib.hid (gr_of HO2.out HN2.out hfn)
   go_wp2_with (first | (go_at_call 61; refine (HTB.out _ HBN2.out).mono ?_; rintro e w8 ⟨rb8, base8, rfl, ho8, _, _, hbl8⟩; have HG3 := Lib.hid (gr_of ho8 HN3.out hdn); have HG12 := Lib.hid (gr_on HG1.out hbl8); have HG22 := Lib.hid (gr_on HG2.out hbl8); have HB8 := Lib.hid hbl8; clear ho8 hbl8) | (go_at_call 60; refine (HTH.out _ _ _ _ _ HG22.out HG3.out).mono ?_; rintro e w9 ⟨rb9, base9, rfl, ho9, _, _, hbl9⟩; have HG4 := Lib.hid (gr_of ho9 HN4.out hfn); have HG13 := Lib.hid (gr_on HG12.out hbl9); have HB9 := Lib.hid hbl9; clear ho9 hbl9) | (go_at_call 59; refine (HJO.out _ _ _ _ _ _ (Blk.new _ _ _) (gr_on HG13.out (alloc_ _ _)) (gr_on HG4.out (alloc_ _ _))).mono ?_; rintro e w10 ⟨rb10, base10, rfl, ho10, hlb10, hbb10, hbl10⟩; have HO10 := Lib.hid ho10; have HLB10 := Lib.hid hlb10; have HBB10 := Lib.hid hbb10; have HBL10 := Lib.hid hbl10; clear ho10 hlb10 hbb10 hbl10))
   go_ret
   exact RowsA.lift ⟨_, _, rfl, HO10.out, HLB10.out, HBB10.out, HBL10.out⟩ (to_ (to_ (to_ HBN2.out HB8.out) HB9.out) (alloc_ _ _))
end Go.Proofs.YtnenmgefgdpkdaaGreat.Bo
