/-
 WALKS of layer 25: Refers.
-/
import Derived.Test.YtnenmgefgdpkdaaGreatZa
import Derived.Test.YtnenmgefgdpkdaaGreatQy
namespace Go.Proofs.YtnenmgefgdpkdaaGreat.Bo
open Go.RowKit Go.Maps
open Mem Rf
set_option linter.unusedSimpArgs false
set_option linter.unusedVariables false
def dirL (P : Pgm) : List (List Int) := (List.range P.fn).map fun a => By.tidyRow (gatP P [19, 21] (tlR (P.fn : Int)) a)
def refP (P : Pgm) : List (List Int) := (List.range P.fn).map fun a => By.tidyRow (jRow (two (dirL P) (valP P)) 2 a)
theorem jRow_two (a b : List (List Int)) (i : Nat) : jRow (two a b) 2 i = By.rowOf a i ++ By.rowOf b i := by
 rw [jRow_succ, jRow_succ]
 unfold jRow two
 simp
theorem dirL_few {w : World} {P : Pgm} (h : PgR w P) (i : Nat) : (By.rowOf (dirL P) i).length ≤ 80 := row_few (fun a ha => gat_few h _ _ ha) i
theorem valP_few {w : World} {P : Pgm} (h : PgR w P) (i : Nat) : (By.rowOf (valP P) i).length ≤ 10000 := by
 refine row_few (b := 10000) (fun a ha => ?_) i
 rw [jRow_two, List.length_append]
 have h1 : (By.rowOf (namL P) a).length ≤ 80 := row_few (fun a ha => gat_few h _ _ ha) a
 have hp : ∀ i, (By.rowOf (pkL P) i).length ≤ 80 := fun i => row_few (fun a ha => gat_few h _ _ ha) i
 have ht : ∀ i, (By.rowOf (tbsL P) i).length ≤ 80 := fun i => row_few (fun a ha => by
  have h1 := tbL_len (gdAt P.ds a).refs (gdAt P.ds a).R.2.1 (P.fn : Int) (gdAt P.ds a).D.words.2.1
  have h2 := ((h.dats a ha).few).1
  unfold tabP; omega) i
 have h2 : (By.rowOf (thrL P) a).length ≤ 6400 := row_few (b := 6400) (fun a ha => by
  have h1 := thR_len (tbsL P) 80 ht (By.rowOf (pkL P) a) (By.rowOf (pkL P) a).length
  rw [thR_all] at h1
  have h2 := hp a
  have : 80 * (By.rowOf (pkL P) a).length ≤ 80 * 80 := Nat.mul_le_mul_left _ h2
  omega) a
 omega
set_option maxRecDepth 100000 in
set_option maxHeartbeats 8000000 in
theorem refers_any (w : World) (P : Pgm) (h : PgR w P) : Calls Tryz.prog 20 #[pgV P] w (RowsA w P.fn (refP P)) := by
 have hfn := h.few.1
 have HDI := Lib.hid (fun W (hb : Below w.heap.size w W) => show Calls _ _ _ _ (RowsA W P.fn (dirL P)) from direct_any W P (h.on hb))
 have HVA := Lib.hid (fun W (hb : Below w.heap.size w W) => values_any W P (h.on hb))
 have HN1 := Lib.hid (show (dirL P).length = P.fn from by simp [dirL])
 have HN2 := Lib.hid (show (valP P).length = P.fn from by simp [valP])
 have HJO := Lib.hid (fun W pb A0 A1 c0 c1 (hB : Blk W pb 38 #[.slice A0 P.fn c0, .slice A1 P.fn c1]) (g0 : By.Gr W W.heap.size (.slice A0 P.fn c0) (dirL P)) (g1 : By.Gr W W.heap.size (.slice A1 P.fn c1) (valP P)) =>
  show Calls _ _ _ _ (RowsA W P.fn (refP P)) from join_two W pb P.fn A0 A1 c0 c1 (dirL P) (valP P) hfn hB g0 g1 HN1.out HN2.out (fun i => Nat.le_trans (dirL_few h i) (by omega)) (valP_few h))
 obtain ⟨Q1, hQ1⟩ : ∃ Q, dirL P = Q := ⟨_, rfl⟩
 obtain ⟨Q2, hQ2⟩ : ∃ Q, valP P = Q := ⟨_, rfl⟩
 obtain ⟨Q5, hQ5⟩ : ∃ Q, refP P = Q := ⟨_, rfl⟩
 rw [hQ1] at HDI HN1 HJO
 rw [hQ2] at HVA HN2 HJO
 rw [hQ5] at HJO ⊢
 clear h hQ1 hQ2 hQ5
 obtain ⟨fA, fn, fc, fs, dA, dn, dc, ds, en, cs⟩ := P
 unfold pgV at HDI HVA ⊢
 dsimp only at HDI HVA HJO HN1 HN2 hfn ⊢
 obtain ⟨W0, hW0⟩ : ∃ W0, w.alloc (.cells #[.slice fA fn fc, .slice dA dn dc, .int .i64 en] 29) = W0 := ⟨_, rfl⟩
 have HBW := Lib.hid (show Below w.heap.size w W0 from by rw [← hW0]; exact alloc_ _ _)
 have HP0 := Lib.hid (show Blk W0 w.heap.size 29 #[.slice fA fn fc, .slice dA dn dc, .int .i64 en] from by rw [← hW0]; exact Blk.new _ _ _)
 have b0 : W0.cell? ⟨w.heap.size, 0, none⟩ = some (.slice fA fn fc) := HP0.out.cell 0
 have b1 : W0.cell? ⟨w.heap.size, 1, none⟩ = some (.slice dA dn dc) := HP0.out.cell 1
 have b2 : W0.cell? ⟨w.heap.size, 2, none⟩ = some (.int .i64 en) := HP0.out.cell 2
 go_enter Tryz.func20, Tryz.ntmps20
 go_wp2_with fail
 clear hW0 HP0
 refine wp_region_noPanic ?_
 refine wp_region_held_drew (S := fun W => W.cell? ⟨w.heap.size, 0, none⟩ = some (.slice fA fn fc) ∧ W.cell? ⟨w.heap.size, 1, none⟩ = some (.slice dA dn dc) ∧ W.cell? ⟨w.heap.size, 2, none⟩ = some (.int .i64 en)) (by kernel_rfl) (⟨b0, b1, b2⟩) (fun hHeld => ?_)
 clear b0 b1 b2
 refine tkZ 0 rfl hHeld ?_
 try simp only [Act.put, nmZ]
 refine tkZ 2 rfl hHeld ?_
 try simp only [Act.put, nmZ]
 refine rdZ 1 rfl (fun K hK => ?_)
 go_simp
 refine (HDI.out _ HBW.out.drew).mono ?_
 rintro e w4 ⟨rb4, base4, rfl, ho, _, _, hbl⟩
 have HG1 := Lib.hid (gr_of ho HN1.out hfn)
 have HBL1 := Lib.hid hbl
 have HBN1 := Lib.hid (to_ HBW.out.drew hbl)
 clear ho hbl
 try go_wp2_with fail
 refine hK.out _ _ (cq3 hHeld HBL1.out) ?_
 clear hK K hHeld
 intro hHeld
 try simp only [Act.put, nmZ]
 refine rdZ 3 rfl (fun K hK => ?_)
 go_simp
 refine (HVA.out _ HBN1.out).mono ?_
 rintro e w5 ⟨rb5, base5, rfl, ho, _, _, hbl⟩
 have HG2 := Lib.hid (gr_of ho HN2.out hfn)
 have HG12 := Lib.hid (gr_on HG1.out hbl)
 have HBL2 := Lib.hid hbl
 have HBN2 := Lib.hid (to_ HBN1.out hbl)
 clear ho hbl
 try go_wp2_with fail
 refine hK.out _ _ (cq3 hHeld HBL2.out) ?_
 clear hK K hHeld
 intro hHeld
 try simp only [Act.put, nmZ]
 refine rdZ 4 rfl (fun K hK => ?_)
 go_simp
 refine hK.out _ _ (cq3 hHeld (alloc_ _ _)) ?_
 clear hK K hHeld
 intro hHeld
 try simp only [Act.put, nmZ]
 refine rdZ 5 rfl (fun K hK => ?_)
 go_simp
 refine (HJO.out _ _ _ _ _ _ (Blk.new _ _ _) (gr_on HG12.out (alloc_ _ _)) (gr_on HG2.out (alloc_ _ _))).mono ?_
 rintro e w6 ⟨rb6, base6, rfl, ho, hlb, hbb, hbl⟩
 have HO10 := Lib.hid ho
 have HLB10 := Lib.hid hlb
 have HBB10 := Lib.hid hbb
 have HBL10 := Lib.hid hbl
 clear ho hlb hbb hbl
 try go_wp2_with fail
 refine hK.out _ _ (cq3 hHeld HBL10.out) ?_
 clear hK K hHeld
 intro hHeld
 try simp only [Act.put, nmZ]
 refine rdZ 6 rfl (fun K hK => ?_)
 go_simp
 refine hK.out _ _ (hHeld) ?_
 clear hK K hHeld
 intro hHeld
 try simp only [Act.put, nmZ]
 refine wpAnyH_done (by kernel_rfl) ?_ _
 refine NoPanic.normal ?_
 go_wp2_with fail
 go_ret
 exact RowsA.lift ⟨_, _, rfl, HO10.out, HLB10.out, HBB10.out, HBL10.out⟩ (to_ HBN2.out (alloc_ _ _))
end Go.Proofs.YtnenmgefgdpkdaaGreat.Bo
