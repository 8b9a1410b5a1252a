/-
 WALKS of layer 25: Direct, Datas, Vias.
-/
import Derived.Test.YtnenmgefgdpkdaaGreatZa
import Derived.Test.YtnenmgefgdpkdaaGreatQw
namespace Go.Proofs.YtnenmgefgdpkdaaGreat.Bo
open Go.RowKit Go.Maps
open Mem Rf
set_option linter.unusedSimpArgs false
set_option linter.unusedVariables false
theorem cq3 {W V : World} {a b c : Addr} {x y z : Value} (h : W.cell? a = some x ∧ W.cell? b = some y ∧ W.cell? c = some z) (u : Below W.heap.size W V) : V.cell? a = some x ∧ V.cell? b = some y ∧ V.cell? c = some z := ⟨cell_on h.1 u, cell_on h.2.1 u, cell_on h.2.2 u⟩
theorem rdZ {P : Program} {md : Region.Mode} {ops : Array Oper} {Q : Exit → Act → World → Prop} {S : World → Prop} {m : Nat} {l : Array Bool} {a : Act} {w : World} (i : Nat) {o : Oper} (ho : ops[i]? = some o)
 (h : ∀ K' : Act → World → Prop, Shut (∀ a w, S w → (S w → wpAnyH P md ops Q S m (l.setIfInBounds i true) a w) → K' a w) → if Region.wanted o (yielded ops a.tmps) = true then Oper.wp P o a w K' Q else K' (a.put o.dst undef) w) (hr : Region.ready md ops l = [i] := by kernel_rfl) : wpAnyH P md ops Q S (m + 1) l a w := wpAnyH_ready hr (by simp) (AllReadyH.cons ho h AllReadyH.nil)
/-- Rows that are a call's own were as well made by a call that began before. -/
theorem RowsA.lift {w W : World} {n : Nat} {L : List (List Int)} {e : Ending} {w' : World} (h : RowsA W n L e w') (hb : Below w.heap.size w W) : RowsA w n L e w' := by
 obtain ⟨rb, base, h1, h2, h3, h4, h5⟩ := h
 exact ⟨rb, base, h1, h2, Nat.le_trans hb.size h3, h4, to_ hb h5⟩
theorem il_blk {W : World} {g : Nat} {l : List Int} (h : Blk W g 3 (By.ints l).toArray) (hl : l.length ≤ maxLen) : IL W (some ⟨g, 0, none⟩) l.length l.length l :=
 ⟨rfl, Nat.le_refl _, hl, (fun e => by cases e), fun i x hi => ⟨_, rfl, h.lt, fun j u hu => by
  rcases j with _ | j
  ·have e : Value.int .i64 x = u := by simpa [encI] using hu
   subst e
   have h2 := h.cell i
   have h3 : (By.ints l).toArray[i]? = some (.int .i64 x) := by simp [By.ints, hi]
   rw [h3] at h2
   simpa [add_plain] using h2
  ·simp [encI] at hu⟩⟩
set_option maxRecDepth 100000 in
set_option maxHeartbeats 8000000 in
theorem direct_any (w : World) (P : Pgm) (h : PgR w P) : Calls Tryz.prog 17 #[pgV P] w (RowsA w P.fn ((List.range P.fn).map fun a => By.tidyRow (gatP P [19, 21] (tlR (P.fn : Int)) a))) := by
 have HGA := Lib.hid (fun W (hb : Below w.heap.size w W) g9 (hg : W.cell? ⟨g9, 0, none⟩ = some (.int .i64 (P.fn : Int))) gs (hs : Blk W gs 3 #[.int .i64 19, .int .i64 21]) =>
  gatherR_any W P (h.on hb) g9 (P.fn : Int) hg _ 2 2 [19, 21] (il_blk (l := [19, 21]) hs (by unfold maxLen; simp)) (by omega) gs 0 rfl)
 have HRF := Lib.hid (fun W => referred_any (P.fn : Int) W)
 obtain ⟨Q, hQ⟩ : ∃ Q, (List.range P.fn).map (fun a => By.tidyRow (gatP P [19, 21] (tlR (P.fn : Int)) a)) = Q := ⟨_, rfl⟩
 rw [hQ] at HGA ⊢
 clear h hQ
 obtain ⟨fA, fn, fc, fs, dA, dn, dc, ds, en, cs⟩ := P
 unfold pgV at HGA ⊢
 dsimp only at HGA HRF ⊢
 obtain ⟨m9, hm9⟩ : ∃ m9 : Int, m9 = ((fn : Nat) : Int) := ⟨_, rfl⟩
 obtain ⟨W0, hW0⟩ : ∃ W0, w.alloc (.cells #[.slice fA fn fc, .slice dA dn dc, .int .i64 en] 29) = W0 := ⟨_, rfl⟩
 have HBW := Lib.hid (show Below w.heap.size w W0 from by rw [← hW0]; exact alloc_ _ _)
 have HP0 := Lib.hid (show Blk W0 w.heap.size 29 #[.slice fA fn fc, .slice dA dn dc, .int .i64 en] from by rw [← hW0]; exact Blk.new _ _ _)
 have b0 : W0.cell? ⟨w.heap.size, 0, none⟩ = some (.slice fA fn fc) := HP0.out.cell 0
 have b1 : W0.cell? ⟨w.heap.size, 1, none⟩ = some (.slice dA dn dc) := HP0.out.cell 1
 have b2 : W0.cell? ⟨w.heap.size, 2, none⟩ = some (.int .i64 en) := HP0.out.cell 2
 go_enter Tryz.func17, Tryz.ntmps17
 go_wp2_with fail
 clear hW0 HP0
 refine wp_region_noPanic ?_
 refine wp_region_held_drew (S := fun W => W.cell? ⟨w.heap.size, 0, none⟩ = some (.slice fA fn fc) ∧ W.cell? ⟨w.heap.size, 1, none⟩ = some (.slice dA dn dc) ∧ W.cell? ⟨w.heap.size, 2, none⟩ = some (.int .i64 en)) (by kernel_rfl) (⟨b0, b1, b2⟩) (fun hHeld => ?_)
 refine tkZ 0 rfl hHeld ?_
 try simp only [Act.put, nmZ]
 refine tkZ 1 rfl hHeld ?_
 try simp only [Act.put, nmZ]
 refine tkZ 2 rfl hHeld ?_
 try simp only [Act.put, nmZ]
 refine tkZ 3 rfl hHeld ?_
 try simp only [Act.put, nmZ]
 refine wpAnyH_ready (rs := [4, 5]) (by kernel_rfl) (by simp) ?_
 refine AllReadyH.cons rfl (fun K hK => ?_) (AllReadyH.cons rfl (fun K hK => ?_) AllReadyH.nil)
 ·go_simp
  refine (HRF.out _).mono ?_
  rintro e w3 ⟨rfl, hw3⟩
  have HB1 := Lib.hid (show Below W0.drew.heap.size W0.drew w3 from by rw [hw3]; exact alloc_ _ _)
  have HC1 := Lib.hid (show w3.cell? ⟨W0.heap.size, 0, none⟩ = some (.int .i64 ((fn : Nat) : Int)) from by rw [hw3]; exact (Blk.new W0.drew 3 #[.int .i64 ((fn : Nat) : Int)]).cell 0)
  clear hw3
  try go_wp2_with fail
  refine hK.out _ _ (cq3 hHeld HB1.out) ?_
  clear hK K hHeld
  intro hHeld
  try simp only [Act.put, nmZ]
  refine rdZ 5 rfl (fun K hK => ?_)
  go_simp
  refine hK.out _ _ (cq3 hHeld (alloc_ _ _)) ?_
  clear hK K hHeld
  intro hHeld
  try simp only [Act.put, nmZ]
  refine rdZ 6 rfl (fun K hK => ?_)
  go_simp
  refine (HGA.out _ (to_ (to_ HBW.out.drew HB1.out) (alloc_ _ _)) _ (cell_on HC1.out (alloc_ _ _)) _ (Blk.new _ _ _)).mono ?_
  rintro e w4 ⟨rb, base, rfl, ho, hlb, hbb, hbl⟩
  have HO := Lib.hid ho
  have HLB := Lib.hid hlb
  have HBB := Lib.hid hbb
  have HBL := Lib.hid hbl
  clear ho hlb hbb hbl
  try go_wp2_with fail
  refine hK.out _ _ (cq3 hHeld HBL.out) ?_
  clear hK K hHeld
  intro hHeld
  try simp only [Act.put, nmZ]
  refine rdZ 7 rfl (fun K hK => ?_)
  go_simp
  refine hK.out _ _ (hHeld) ?_
  clear hK K hHeld
  intro hHeld
  try simp only [Act.put, nmZ]
  refine wpAnyH_done (by kernel_rfl) ?_ _
  refine NoPanic.normal ?_
  go_wp2_with fail
  go_ret
  exact RowsA.lift ⟨_, _, rfl, HO.out, HLB.out, HBB.out, HBL.out⟩ (to_ (to_ HBW.out.drew HB1.out) (alloc_ _ _))
 ·go_simp
  refine hK.out _ _ (cq3 hHeld (alloc_ _ _)) ?_
  clear hK K hHeld
  intro hHeld
  try simp only [Act.put, nmZ]
  refine rdZ 4 rfl (fun K hK => ?_)
  go_simp
  refine (HRF.out _).mono ?_
  rintro e w3 ⟨rfl, hw3⟩
  have HB0 := Lib.hid (alloc_ W0.drew (.cells #[.int .i64 19, .int .i64 21] 3))
  have HB1 := Lib.hid (show Below (W0.drew.alloc (.cells #[.int .i64 19, .int .i64 21] 3)).heap.size (W0.drew.alloc (.cells #[.int .i64 19, .int .i64 21] 3)) w3 from by rw [hw3]; exact alloc_ _ _)
  have HC1 := Lib.hid (show w3.cell? ⟨(W0.drew.alloc (.cells #[.int .i64 19, .int .i64 21] 3)).heap.size, 0, none⟩ = some (.int .i64 ((fn : Nat) : Int)) from by rw [hw3]; exact (Blk.new _ 3 #[.int .i64 ((fn : Nat) : Int)]).cell 0)
  have HA1 := Lib.hid (show Blk w3 W0.heap.size 3 #[.int .i64 19, .int .i64 21] from by rw [hw3]; exact (Blk.new W0.drew 3 #[.int .i64 19, .int .i64 21]).alloc _)
  clear hw3
  try go_wp2_with fail
  refine hK.out _ _ (cq3 hHeld HB1.out) ?_
  clear hK K hHeld
  intro hHeld
  try simp only [Act.put, nmZ]
  refine rdZ 6 rfl (fun K hK => ?_)
  go_simp
  refine (HGA.out _ (to_ (to_ HBW.out.drew HB0.out) HB1.out) _ (by first | exact HC1.out | simpa using HC1.out) _ HA1.out).mono ?_
  rintro e w4 ⟨rb, base, rfl, ho, hlb, hbb, hbl⟩
  have HO := Lib.hid ho
  have HLB := Lib.hid hlb
  have HBB := Lib.hid hbb
  have HBL := Lib.hid hbl
  clear ho hlb hbb hbl
  try go_wp2_with fail
  refine hK.out _ _ (cq3 hHeld HBL.out) ?_
  clear hK K hHeld
  intro hHeld
  try simp only [Act.put, nmZ]
  refine rdZ 7 rfl (fun K hK => ?_)
  go_simp
  refine hK.out _ _ (hHeld) ?_
  clear hK K hHeld
  intro hHeld
  try simp only [Act.put, nmZ]
  refine wpAnyH_done (by kernel_rfl) ?_ _
  refine NoPanic.normal ?_
  go_wp2_with fail
  go_ret
  exact RowsA.lift ⟨_, _, rfl, HO.out, HLB.out, HBB.out, HBL.out⟩ (to_ (to_ HBW.out.drew HB0.out) HB1.out)
set_option maxRecDepth 100000 in
set_option maxHeartbeats 8000000 in
theorem datas_any (w : World) (P : Pgm) (h : PgR w P) : Calls Tryz.prog 22 #[pgV P] w (RowsA w P.fn ((List.range P.fn).map fun a => By.tidyRow (gatP P [15, 16, 18] (tlR (P.dn : Int)) a))) := by
 have HGA := Lib.hid (fun W (hb : Below w.heap.size w W) g9 (hg : W.cell? ⟨g9, 0, none⟩ = some (.int .i64 (P.dn : Int))) gs (hs : Blk W gs 3 #[.int .i64 15, .int .i64 16, .int .i64 18]) =>
  gatherR_any W P (h.on hb) g9 (P.dn : Int) hg _ 3 3 [15, 16, 18] (il_blk (l := [15, 16, 18]) hs (by unfold maxLen; simp)) (by omega) gs 0 rfl)
 have HRF := Lib.hid (fun W => referred_any (P.dn : Int) W)
 obtain ⟨Q, hQ⟩ : ∃ Q, (List.range P.fn).map (fun a => By.tidyRow (gatP P [15, 16, 18] (tlR (P.dn : Int)) a)) = Q := ⟨_, rfl⟩
 rw [hQ] at HGA ⊢
 clear h hQ
 obtain ⟨fA, fn, fc, fs, dA, dn, dc, ds, en, cs⟩ := P
 unfold pgV at HGA ⊢
 dsimp only at HGA HRF ⊢
 obtain ⟨m9, hm9⟩ : ∃ m9 : Int, m9 = ((dn : Nat) : Int) := ⟨_, rfl⟩
 obtain ⟨W0, hW0⟩ : ∃ W0, w.alloc (.cells #[.slice fA fn fc, .slice dA dn dc, .int .i64 en] 29) = W0 := ⟨_, rfl⟩
 have HBW := Lib.hid (show Below w.heap.size w W0 from by rw [← hW0]; exact alloc_ _ _)
 have HP0 := Lib.hid (show Blk W0 w.heap.size 29 #[.slice fA fn fc, .slice dA dn dc, .int .i64 en] from by rw [← hW0]; exact Blk.new _ _ _)
 have b0 : W0.cell? ⟨w.heap.size, 0, none⟩ = some (.slice fA fn fc) := HP0.out.cell 0
 have b1 : W0.cell? ⟨w.heap.size, 1, none⟩ = some (.slice dA dn dc) := HP0.out.cell 1
 have b2 : W0.cell? ⟨w.heap.size, 2, none⟩ = some (.int .i64 en) := HP0.out.cell 2
 go_enter Tryz.func22, Tryz.ntmps22
 go_wp2_with fail
 clear hW0 HP0
 refine wp_region_noPanic ?_
 refine wp_region_held_drew (S := fun W => W.cell? ⟨w.heap.size, 0, none⟩ = some (.slice fA fn fc) ∧ W.cell? ⟨w.heap.size, 1, none⟩ = some (.slice dA dn dc) ∧ W.cell? ⟨w.heap.size, 2, none⟩ = some (.int .i64 en)) (by kernel_rfl) (⟨b0, b1, b2⟩) (fun hHeld => ?_)
 refine tkZ 0 rfl hHeld ?_
 try simp only [Act.put, nmZ]
 refine tkZ 1 rfl hHeld ?_
 try simp only [Act.put, nmZ]
 refine tkZ 2 rfl hHeld ?_
 try simp only [Act.put, nmZ]
 refine tkZ 3 rfl hHeld ?_
 try simp only [Act.put, nmZ]
 refine wpAnyH_ready (rs := [4, 5]) (by kernel_rfl) (by simp) ?_
 refine AllReadyH.cons rfl (fun K hK => ?_) (AllReadyH.cons rfl (fun K hK => ?_) AllReadyH.nil)
 ·go_simp
  refine (HRF.out _).mono ?_
  rintro e w3 ⟨rfl, hw3⟩
  have HB1 := Lib.hid (show Below W0.drew.heap.size W0.drew w3 from by rw [hw3]; exact alloc_ _ _)
  have HC1 := Lib.hid (show w3.cell? ⟨W0.heap.size, 0, none⟩ = some (.int .i64 ((dn : Nat) : Int)) from by rw [hw3]; exact (Blk.new W0.drew 3 #[.int .i64 ((dn : Nat) : Int)]).cell 0)
  clear hw3
  try go_wp2_with fail
  refine hK.out _ _ (cq3 hHeld HB1.out) ?_
  clear hK K hHeld
  intro hHeld
  try simp only [Act.put, nmZ]
  refine rdZ 5 rfl (fun K hK => ?_)
  go_simp
  refine hK.out _ _ (cq3 hHeld (alloc_ _ _)) ?_
  clear hK K hHeld
  intro hHeld
  try simp only [Act.put, nmZ]
  refine rdZ 6 rfl (fun K hK => ?_)
  go_simp
  refine (HGA.out _ (to_ (to_ HBW.out.drew HB1.out) (alloc_ _ _)) _ (cell_on HC1.out (alloc_ _ _)) _ (Blk.new _ _ _)).mono ?_
  rintro e w4 ⟨rb, base, rfl, ho, hlb, hbb, hbl⟩
  have HO := Lib.hid ho
  have HLB := Lib.hid hlb
  have HBB := Lib.hid hbb
  have HBL := Lib.hid hbl
  clear ho hlb hbb hbl
  try go_wp2_with fail
  refine hK.out _ _ (cq3 hHeld HBL.out) ?_
  clear hK K hHeld
  intro hHeld
  try simp only [Act.put, nmZ]
  refine rdZ 7 rfl (fun K hK => ?_)
  go_simp
  refine hK.out _ _ (hHeld) ?_
  clear hK K hHeld
  intro hHeld
  try simp only [Act.put, nmZ]
  refine wpAnyH_done (by kernel_rfl) ?_ _
  refine NoPanic.normal ?_
  go_wp2_with fail
  go_ret
  exact RowsA.lift ⟨_, _, rfl, HO.out, HLB.out, HBB.out, HBL.out⟩ (to_ (to_ HBW.out.drew HB1.out) (alloc_ _ _))
 ·go_simp
  refine hK.out _ _ (cq3 hHeld (alloc_ _ _)) ?_
  clear hK K hHeld
  intro hHeld
  try simp only [Act.put, nmZ]
  refine rdZ 4 rfl (fun K hK => ?_)
  go_simp
  refine (HRF.out _).mono ?_
  rintro e w3 ⟨rfl, hw3⟩
  have HB0 := Lib.hid (alloc_ W0.drew (.cells #[.int .i64 15, .int .i64 16, .int .i64 18] 3))
  have HB1 := Lib.hid (show Below (W0.drew.alloc (.cells #[.int .i64 15, .int .i64 16, .int .i64 18] 3)).heap.size (W0.drew.alloc (.cells #[.int .i64 15, .int .i64 16, .int .i64 18] 3)) w3 from by rw [hw3]; exact alloc_ _ _)
  have HC1 := Lib.hid (show w3.cell? ⟨(W0.drew.alloc (.cells #[.int .i64 15, .int .i64 16, .int .i64 18] 3)).heap.size, 0, none⟩ = some (.int .i64 ((dn : Nat) : Int)) from by rw [hw3]; exact (Blk.new _ 3 #[.int .i64 ((dn : Nat) : Int)]).cell 0)
  have HA1 := Lib.hid (show Blk w3 W0.heap.size 3 #[.int .i64 15, .int .i64 16, .int .i64 18] from by rw [hw3]; exact (Blk.new W0.drew 3 #[.int .i64 15, .int .i64 16, .int .i64 18]).alloc _)
  clear hw3
  try go_wp2_with fail
  refine hK.out _ _ (cq3 hHeld HB1.out) ?_
  clear hK K hHeld
  intro hHeld
  try simp only [Act.put, nmZ]
  refine rdZ 6 rfl (fun K hK => ?_)
  go_simp
  refine (HGA.out _ (to_ (to_ HBW.out.drew HB0.out) HB1.out) _ (by first | exact HC1.out | simpa using HC1.out) _ HA1.out).mono ?_
  rintro e w4 ⟨rb, base, rfl, ho, hlb, hbb, hbl⟩
  have HO := Lib.hid ho
  have HLB := Lib.hid hlb
  have HBB := Lib.hid hbb
  have HBL := Lib.hid hbl
  clear ho hlb hbb hbl
  try go_wp2_with fail
  refine hK.out _ _ (cq3 hHeld HBL.out) ?_
  clear hK K hHeld
  intro hHeld
  try simp only [Act.put, nmZ]
  refine rdZ 7 rfl (fun K hK => ?_)
  go_simp
  refine hK.out _ _ (hHeld) ?_
  clear hK K hHeld
  intro hHeld
  try simp only [Act.put, nmZ]
  refine wpAnyH_done (by kernel_rfl) ?_ _
  refine NoPanic.normal ?_
  go_wp2_with fail
  go_ret
  exact RowsA.lift ⟨_, _, rfl, HO.out, HLB.out, HBB.out, HBL.out⟩ (to_ (to_ HBW.out.drew HB0.out) HB1.out)
end Go.Proofs.YtnenmgefgdpkdaaGreat.Bo
