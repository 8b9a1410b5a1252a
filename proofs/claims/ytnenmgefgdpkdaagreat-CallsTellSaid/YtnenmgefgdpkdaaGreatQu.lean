/-
 WALKS of layer 25: tables.
-/
import Derived.Test.YtnenmgefgdpkdaaGreatZa
import Derived.Test.YtnenmgefgdpkdaaGreatQs
namespace Go.Proofs.YtnenmgefgdpkdaaGreat.Bo
open Go.RowKit Go.Maps
open Mem Rf
set_option linter.unusedSimpArgs false
set_option linter.unusedVariables false
def tbO (rs : List Int) (nR : Nat) (m : Int) (j : Nat) : List Int := if oneB (rfA rs nR j) m = true then [rfA rs nR j] else []
def tbL (rs : List Int) (nR : Nat) (m : Int) (k : Nat) : List Int := (List.range k).flatMap (tbO rs nR m)
theorem tbL_succ (rs : List Int) (nR : Nat) (m : Int) (k : Nat) : tbL rs nR m (k + 1) = tbL rs nR m k ++ tbO rs nR m k := by
 unfold tbL; rw [List.range_succ, List.flatMap_append]; simp
theorem tbL_len (rs : List Int) (nR : Nat) (m : Int) : ∀ k, (tbL rs nR m k).length ≤ k
 | 0 => by simp [tbL]
 | k + 1 => by
  have h := tbL_len rs nR m k
  rw [tbL_succ, List.length_append]
  unfold tbO
  split
  ·simp; omega
  ·simp; omega
/-- The functions to which the words of a program's data refer. -/
def tabP (P : Pgm) (a : Nat) : List Int := tbL (gdAt P.ds a).refs (gdAt P.ds a).R.2.1 (P.fn : Int) (gdAt P.ds a).D.words.2.1
set_option maxRecDepth 100000 in
set_option maxHeartbeats 8000000 in
theorem tables_any (w : World) (P : Pgm) (h : PgR w P) : Calls Tryz.prog 61 #[pgV P] w (RowsA w P.dn ((List.range P.dn).map fun a => By.tidyRow (tabP P a))) := by
 obtain ⟨iNf, hiN, hzN0, hzN1, hzN2⟩ := info_split infoInt
 have hfw := h.few
 have hmk := By.make_rows P.dn (by omega)
 have HGF := Lib.hid (fun W (hb : Below w.heap.size w W) a (ha : a < P.dn) => gd_at (h.on hb).dr ha)
 have HGR := Lib.hid (fun W (hb : Below w.heap.size w W) a (ha : a < P.dn) => (h.on hb).dats a ha)
 have HTL := Lib.hid (fun a (ha : a < P.dn) => show (tabP P a).length ≤ 1000000 from by
  have h1 := tbL_len (gdAt P.ds a).refs (gdAt P.ds a).R.2.1 (P.fn : Int) (gdAt P.ds a).D.words.2.1
  have h2 := ((h.dats a ha).few).1
  unfold tabP; omega)
 have HGP := Lib.hid (show ∀ a, tabP P a = tbL (gdAt P.ds a).refs (gdAt P.ds a).R.2.1 (P.fn : Int) (gdAt P.ds a).D.words.2.1 from fun a => rfl)
 have HMAP := Lib.hid (show ((List.range P.dn).map (tabP P)).map By.tidyRow = (List.range P.dn).map fun a => By.tidyRow (tabP P a) from by rw [List.map_map]; rfl)
 rw [← HMAP.out]
 obtain ⟨rw9, hrw⟩ : ∃ x, tabP P = x := ⟨_, rfl⟩
 rw [hrw] at HTL HGP ⊢
 clear h hrw HMAP
 obtain ⟨fA, fn, fc, fs, dA, dn, dc, ds, en, cs⟩ := P
 unfold pgV
 dsimp only at HGF HGR HTL HGP hfw hmk ⊢
 obtain ⟨hfw0, hfw⟩ := hfw
 obtain ⟨b0, hb0⟩ : ∃ x : Nat, w.heap.size = x := ⟨_, rfl⟩
 obtain ⟨W0, hW0⟩ : ∃ W0, (w.alloc (.cells #[.slice fA fn fc, .slice dA dn dc, .int .i64 en] 29)).alloc (.cells (Array.replicate dn (.slice none 0 0)) 42) = W0 := ⟨_, rfl⟩
 have HB0 := Lib.hid (show Below w.heap.size w W0 from by rw [← hW0]; exact to_ (alloc_ _ _) (alloc_ _ _))
 have HP0 := Lib.hid (show Blk W0 w.heap.size 29 #[.slice fA fn fc, .slice dA dn dc, .int .i64 en] from by rw [← hW0]; exact (Blk.new _ _ _).alloc _)
 have HO0 := Lib.hid (show By.OwnG W0 (w.heap.size + 1) (w.heap.size + 2) 42 3 (rwsA dn rw9 0) from by
  rw [rwsA_nil]
  refine By.OwnG.start W0 dn _ ?_
  have := Blk.new (w.alloc (.cells #[.slice fA fn fc, .slice dA dn dc, .int .i64 en] 29)) 42 (Array.replicate dn (.slice none 0 0))
  rw [World.size_alloc] at this
  rw [← hW0]; exact this)
 clear hb0
 unfold RowsA
 have c1 : W0.cell? ⟨w.heap.size, 1, none⟩ = some (.slice dA dn dc) := HP0.out.cell 1
 go_enter Tryz.func61, Tryz.ntmps61
 go_wp2_with fail
 clear hW0 c1
 go_loopw [15] (fun i9 wr => ∃ a : Nat, a ≤ dn ∧ i9 = .int .i64 (a : Int) ∧ Hid (By.OwnG wr (w.heap.size + 1) (w.heap.size + 2) 42 3 (rwsA dn rw9 a)) ∧ Hid (Below w.heap.size w wr) ∧ Hid (Blk wr w.heap.size 29 #[.slice fA fn fc, .slice dA dn dc, .int .i64 en])) (fun i9 _ => dn - (intOf i9).toNat)
 case atStart => exact ⟨0, Nat.zero_le _, rfl, HO0, HB0, HP0⟩
 case round =>
  obtain ⟨a, ha, rfl, HOG, HBW, HPB⟩ := hrel
  by_cases hlt : a < dn
  ·have haI : (a : Int) < (dn : Int) := by omega
   have ha0 : (0 : Int) ≤ (a : Int) := by omega
   have HLT := Lib.hid hlt
   obtain ⟨ad, rfl, hz9, f0, hfc⟩ := HGF.out wr HBW.out a hlt
   have HGA := Lib.hid (fun W (hb : Below w.heap.size w W) => HGR.out W hb a hlt)
   have HGP9 := Lib.hid (HGP.out a)
   have HLEN := Lib.hid (HTL.out a hlt)
   obtain ⟨g, hg⟩ : ∃ g, gdAt ds a = g := ⟨_, rfl⟩
   rw [hg] at hfc f0 HGA HGP9
   clear hg
   obtain ⟨file, item, nm, ⟨kd, ⟨kA, kn, kc⟩, ⟨rA, rn, rc⟩⟩, ⟨qA, qn, qc⟩, refs⟩ := g
   have f1 := hfc 0 _ rfl
   have f2 := hfc 1 _ rfl
   have f3 := hfc 2 _ rfl
   have f4 := hfc 3 _ rfl
   have f5 := hfc 4 _ rfl
   have f6 := hfc 5 _ rfl
   unfold slV at f4 f5 f6
   dsimp only at HGP9 f0 f1 f2 f3 f4 f5 f6
   have hc80 : kn ≤ 80 := (HGA.out w (Below.refl _ _)).few.1
   clear hfc
   obtain ⟨wz, hwz⟩ : ∃ wz, wz = wr := ⟨_, rfl⟩
   subst hwz
   obtain ⟨FBK, hFB⟩ : ∃ x : Nat, wz.heap.size = x := ⟨_, rfl⟩
   have HFB0 := Lib.hid (show Blk (wz.alloc (.cells #[.int .i64 (file : Int), .int .i64 (item : Int), .string nm, .int .i64 kd, .slice kA kn kc, .slice rA rn rc, .slice qA qn qc] 87)) FBK 87 #[.int .i64 (file : Int), .int .i64 (item : Int), .string nm, .int .i64 kd, .slice kA kn kc, .slice rA rn rc, .slice qA qn qc] from by rw [← hFB]; exact Blk.new _ _ _)
   have HFBN := Lib.hid (show w.heap.size + 2 ≤ FBK from by have := HOG.out.lt; omega)
   have HHF := Lib.hid hFB
   clear hFB
   go_wp2_with fail
   obtain ⟨wy, hwy⟩ : ∃ wy, wz.alloc (.cells #[.int .i64 (file : Int), .int .i64 (item : Int), .string nm, .int .i64 kd, .slice kA kn kc, .slice rA rn rc, .slice qA qn qc] 87) = wy := ⟨_, rfl⟩
   have HBY := Lib.hid (show Below wz.heap.size wz wy from by rw [← hwy]; exact alloc_ _ _)
   rw [hwy] at HFB0
   rw [hwy, HHF.out]
   clear hwy f0 f1 f2 f3 f4 f5 f6 hz9
   have HOY := Lib.hid (show By.OwnG wy (w.heap.size + 1) (w.heap.size + 2) 42 3 ((rwsA dn rw9 a).set a (tbL refs qn (fn : Int) 0)) from by
    have h1 := ownG_on HOG.out HBY.out
    have h2 : (rwsA dn rw9 a).set a (tbL refs qn (fn : Int) 0) = rwsA dn rw9 a := set_nil HLT.out
    rw [h2]; exact h1)
   go_loopw [24] (fun i9 wr => ∃ k : Nat, k ≤ kn ∧ i9 = .int .i64 (k : Int) ∧ Hid (By.OwnG wr (w.heap.size + 1) (w.heap.size + 2) 42 3 ((rwsA dn rw9 a).set a (tbL refs qn (fn : Int) k))) ∧ Hid (Below w.heap.size w wr) ∧ Hid (Blk wr w.heap.size 29 #[.slice fA fn fc, .slice (some ad) dn dc, .int .i64 en]) ∧ Hid (Blk wr FBK 87 #[.int .i64 (file : Int), .int .i64 (item : Int), .string nm, .int .i64 kd, .slice kA kn kc, .slice rA rn rc, .slice qA qn qc])) (fun i9 _ => kn - (intOf i9).toNat)
   case atStart => exact ⟨0, Nat.zero_le _, rfl, HOY, Lib.hid (to_ HBW.out HBY.out), Lib.hid (HPB.out.below HBY.out HPB.out.lt), HFB0⟩
   case round =>
    obtain ⟨k, hk, rfl, HOG, HBW, HPB, HFB⟩ := hrel
    by_cases hkl : k < kn
    ·have hkI : (k : Int) < (kn : Int) := by omega
     have hk0 : (0 : Int) ≤ (k : Int) := by omega
     have HKL := Lib.hid hkl
     have HTS := Lib.hid (tbL_succ refs qn (fn : Int) k)
     have htl := tbL_len refs qn (fn : Int) k
     have HTG := Lib.hid (show tbO refs qn (fn : Int) k = if oneB (rfA refs qn k) fn = true then [rfA refs qn k] else [] from rfl)
     have HRA := Lib.hid (refAt_any wr qA qn qc refs (HGA.out wr HBW.out).refs k)
     have HIO := Lib.hid (isOne_any (rfA refs qn k) (fn : Int) wr)
     obtain ⟨rf9, hrf⟩ : ∃ x, rfA refs qn k = x := ⟨_, rfl⟩
     rw [hrf] at HTG HRA HIO
     obtain ⟨bc, hbc⟩ : ∃ b, oneB rf9 (fn : Int) = b := ⟨_, rfl⟩
     rw [hbc] at HTG HIO
     clear hrf hbc
     have x6 := HFB.out.cell 6
     have c0 := HPB.out.cell 0
     obtain ⟨w3, hw3⟩ : ∃ x, x = wr := ⟨_, rfl⟩
     subst hw3
     cases bc with
     | false =>
      have HR := Lib.hid (show tbL refs qn (fn : Int) (k + 1) = tbL refs qn (fn : Int) k from by rw [HTS.out, HTG.out]; simp)
      go_wp2_with (first
       | (go_at_call 98; refine HRA.out.mono ?_; rintro e w2 ⟨rfl, e2⟩; obtain rfl := e2.symm)
       | (go_at_call 63; refine HIO.out.mono ?_; rintro e w2 ⟨rfl, e2⟩; obtain rfl := e2.symm))
      go_roundw
      case rel => exact ⟨k + 1, by have := HKL.out; omega, by go_num, Lib.hid (by rw [HR.out]; exact HOG.out), HBW, HPB, HFB⟩
      case measure => have := HKL.out; simp [intOf]; omega
     | true =>
      have HNX := Lib.hid (show tbL refs qn (fn : Int) (k + 1) = tbL refs qn (fn : Int) k ++ [rf9] from by rw [HTS.out, HTG.out]; simp)
      obtain ⟨XL, hXL⟩ : ∃ x, tbL refs qn (fn : Int) k = x := ⟨_, rfl⟩
      rw [hXL] at htl HNX
      have HO3 := HOG.out
      rw [hXL] at HO3
      clear hXL HTG HTS
      obtain ⟨rv, hcell, hfr, hone, hrow, ⟨RA, RC, hrv⟩, hput⟩ := HO3.at_ (by omega) (a := a) (by rw [List.length_set, rwsA_len]; exact HLT.out)
      rw [set_row HLT.out] at hrow hrv
      have HP := Lib.hid hput
      have hlt3 := HO3.lt
      have hownA := By.own_keep (w' := w3.alloc (.cells #[.int .i64 rf9] 3)) hrow (fun k _ hk _ => Below.heap_alloc _ _ _ hk)
      have hnewA : (w3.alloc (.cells #[.int .i64 rf9] 3)).cell? ⟨w3.heap.size, 0, none⟩ = some (.int .i64 rf9) := by
       have := (Blk.new w3 3 #[.int .i64 rf9]).cell 0
       exact this
      have hrbA : (w3.alloc (.cells #[.int .i64 rf9] 3)).cell? ⟨w.heap.size + 1, a, none⟩ = some rv := by
       rw [World.cell?_alloc_lt _ _ _ (by show w.heap.size + 1 < w3.heap.size; omega)]; exact hcell
      have hfrA : (w3.alloc (.cells #[.int .i64 rf9] 3)).frozen? ⟨w.heap.size + 1, a, none⟩ = false := by
       rw [World.frozen?_alloc_past _ _ _ (by show w.heap.size + 1 < w3.heap.size; omega)]; exact hfr
      have HRB := Lib.hid (show some (w.heap.size + 1) ≠ rv.ownBlock from fun e => by have := (hrow.lt _ e.symm).1; omega)
      have HRP := Lib.hid (show some w.heap.size ≠ rv.ownBlock from fun e => by have := (hrow.lt _ e.symm).1; omega)
      have HRF := Lib.hid (own_neb hrow HFB.out (by decide))
      have HBS := Lib.hid (show ∀ r, rv.ownBlock = some r → w.heap.size + 2 ≤ r from fun r e => (hrow.lt r e).1)
      have HL1 : XL.length + 1 ≤ maxLen := by unfold maxLen; omega
      have HL2 : (XL.length + 1) * 8 ≤ 140737488355328 := by omega
      have HEnd := Lib.hid (show ∀ (g' cap' : Nat) (w' : World), w'.ownsRow (w.heap.size + 2) 3 1 (.slice (some ⟨g', 0, none⟩) (XL.length + 1) cap') (XL.length + 1) (By.ints XL ++ [.int .i64 rf9]) →
        (w3.alloc (.cells #[.int .i64 rf9] 3)).grownBy w' rv.ownBlock →
        ((Value.slice (some ⟨g', 0, none⟩) (XL.length + 1) cap').ownBlock = rv.ownBlock ∨ (Value.slice (some ⟨g', 0, none⟩) (XL.length + 1) cap').ownBlock = some (w3.alloc (.cells #[.int .i64 rf9] 3)).heap.size) →
        By.OwnG (w'.setCell ⟨w.heap.size + 1, a, none⟩ (.slice (some ⟨g', 0, none⟩) (XL.length + 1) cap')) (w.heap.size + 1) (w.heap.size + 2) 42 3 ((rwsA dn rw9 a).set a (XL ++ [rf9])) ∧
        Below w.heap.size w (w'.setCell ⟨w.heap.size + 1, a, none⟩ (.slice (some ⟨g', 0, none⟩) (XL.length + 1) cap')) ∧
        Blk (w'.setCell ⟨w.heap.size + 1, a, none⟩ (.slice (some ⟨g', 0, none⟩) (XL.length + 1) cap')) w.heap.size 29 #[.slice fA fn fc, .slice (some ad) dn dc, .int .i64 en] ∧
        Blk (w'.setCell ⟨w.heap.size + 1, a, none⟩ (.slice (some ⟨g', 0, none⟩) (XL.length + 1) cap')) FBK 87 #[.int .i64 (file : Int), .int .i64 (item : Int), .string nm, .int .i64 kd, .slice kA kn kc, .slice rA rn rc, .slice qA qn qc] from by
       intro g' cap' w' h2 h3 h4
       refine ⟨?_, ?_, ?_, ?_⟩
       ·have h5 := HP.out (.slice (some ⟨g', 0, none⟩) (XL.length + 1) cap') (XL ++ [rf9]) w' rfl (by simpa [By.ints] using h2)
         (by
          rcases h4 with h4 | h4
          ·exact .inr (.inl h4)
          ·exact .inr (.inr ⟨_, h4, by simp⟩))
         (fun k hk hlt hne => (h3.block k (by simp; omega) (fun e => hne e.symm)).trans (Below.heap_alloc _ _ _ hlt))
        rwa [List.set_set] at h5
       ·refine (HBW.out.trans ?_).setCell (p := ⟨w.heap.size + 1, a, none⟩) (by show w.heap.size ≤ w.heap.size + 1; omega) _
        exact ((Below.refl w.heap.size w3).alloc (by have := HBW.out.size; omega) _).grown h3 (by simp; omega) fun r e => by have := HBS.out r e; omega
       ·have h6 := HPB.out.alloc (.cells #[.int .i64 rf9] 3)
        exact ((heap_setCell_other _ _ _ _ (by show w.heap.size ≠ w.heap.size + 1; omega)).trans (h3.block _ h6.lt HRP.out)).trans h6
       ·have h6 := HFB.out.alloc (.cells #[.int .i64 rf9] 3)
        exact ((heap_setCell_other _ _ _ _ (by show FBK ≠ w.heap.size + 1; have := HFBN.out; omega)).trans (h3.block _ h6.lt HRF.out)).trans h6)
      rw [← HNX.out] at HEnd
      subst hrv
      clear hput hrow hone HO3
      have HNEW := Lib.hid (show ∀ j u, [Value.int .i64 rf9][j]? = some u → (w3.alloc (.cells #[.int .i64 rf9] 3)).cell? ((⟨w3.heap.size, 0, none⟩ : Addr).add j) = some u from fun j u hj => by
       rcases j with _ | j
       ·injection hj with hj; subst hj; exact hnewA
       ·cases hj)
      go_wp2_with (first
       | (go_at_call 98; refine HRA.out.mono ?_; rintro e w2 ⟨rfl, e2⟩; obtain rfl := e2.symm)
       | (go_at_call 63; refine HIO.out.mono ?_; rintro e w2 ⟨rfl, e2⟩; obtain rfl := e2.symm)
       | (at_builtin; go_loud (refine wpList_append_own_at _ rfl _ _ 42 rfl (w.heap.size + 2) 3 iNf (.int .i64 0) 1 8 Tryz.underlying42 hiN hzN0 hzN1 hzN2 rfl (by omega) _ _ _ rfl hownA ⟨w3.heap.size, 0, none⟩ 1 1 [.int .i64 rf9] rfl rfl HNEW.out (by simp [Value.oneCell']) HL1 HL2 (by simp; omega) ?_); intro v' w' h2 h3 _ h4; obtain ⟨g', cap', hv'⟩ := ownsRow_succ h2; subst hv'; have hrb' := h3.cell hrbA HRB.out; have hfr' : w'.frozen? ⟨w.heap.size + 1, a, none⟩ = false := (World.frozen?_of_block (h3.block (w.heap.size + 1) (World.block_lt_of_cell? _ _ hrbA) HRB.out)).trans hfrA; have h5 := HEnd.out _ _ _ h2 h3 h4; have H51 := Lib.hid h5.1; have H52 := Lib.hid h5.2.1; have H53 := Lib.hid h5.2.2.1; have H54 := Lib.hid h5.2.2.2; clear h2 h3 h4 h5 hownA hnewA hrbA hfrA hcell hfr))
      go_roundw
      case rel => exact ⟨k + 1, by have := HKL.out; omega, by go_num, H51, H52, H53, H54⟩
      case measure => have := HKL.out; simp [intOf]; omega
    ·obtain rfl : kn = k := by omega
     have HO9 := Lib.hid (show By.OwnG wr (w.heap.size + 1) (w.heap.size + 2) 42 3 (rwsA dn rw9 (a + 1)) from by
      have h1 := HOG.out
      rw [← HGP9.out, rwsA_set HLT.out] at h1; exact h1)
     go_wp2_with fail
     go_roundw
     case rel => exact ⟨a + 1, by have := HLT.out; omega, by go_num, HO9, HBW, HPB⟩
     case measure => have := HLT.out; simp [intOf]; omega
  ·obtain rfl : dn = a := by omega
   have hct := By.ctidy_any wr (w.heap.size + 1) (w.heap.size + 2) (rwsA dn rw9 dn) HOG.out (by omega) (by rw [rwsA_len]; omega) (fun i => by
    by_cases hi : i < dn
    ·rw [rwsA_row hi, if_pos hi]; exact HTL.out i hi
    ·unfold By.rowOf
     rw [List.getD_eq_getElem?_getD, List.getElem?_eq_none (by rw [rwsA_len]; omega)]; simp)
   rw [rwsA_len, rwsA_all] at hct
   have HCT := Lib.hid hct
   have HLW := Lib.hid HOG.out.lt
   clear hct
   go_wp2_with (go_at_call 99; refine HCT.out.mono ?_; rintro e w2 ⟨rfl, hO2, hK2⟩; have HO2 := Lib.hid hO2; have HK2 := Lib.hid hK2; clear hO2 hK2)
   go_ret
   exact ⟨_, _, rfl, HO2.out, by omega, by omega, HBW.out.trans (HK2.out.below HBW.out.size (fun k hk => by omega))⟩
end Go.Proofs.YtnenmgefgdpkdaaGreat.Bo
