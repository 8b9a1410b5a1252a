/-
 WALKS of layer 25: through.
-/
import Derived.Test.YtnenmgefgdpkdaaGreatZa
import Derived.Test.YtnenmgefgdpkdaaGreatQv
namespace Go.Proofs.YtnenmgefgdpkdaaGreat.Bo
open Go.RowKit Go.Maps
open Mem Rf
set_option linter.unusedSimpArgs false
set_option linter.unusedVariables false
/-- What the first k of a list of data have in the tables. -/
def thR (Tb : List (List Int)) (l : List Int) (k : Nat) : List Int := (l.take k).flatMap fun x => By.rowOf Tb x.toNat
theorem thR_succ (Tb : List (List Int)) (l : List Int) (k X : Nat) (hk : k < l.length) (h : l.getD k 0 = (X : Int)) : thR Tb l (k + 1) = thR Tb l k ++ By.rowOf Tb X := by
 have e : l[k]? = some (X : Int) := by
  rw [List.getD_eq_getElem?_getD, List.getElem?_eq_getElem hk] at h
  rw [List.getElem?_eq_getElem hk]; exact congrArg some h
 unfold thR
 rw [List.take_add_one, e, List.flatMap_append]; simp
theorem thR_all (Tb : List (List Int)) (l : List Int) : thR Tb l l.length = l.flatMap fun x => By.rowOf Tb x.toNat := by unfold thR; rw [List.take_length]
theorem thR_len (Tb : List (List Int)) (b : Nat) (hb : ∀ i, (By.rowOf Tb i).length ≤ b) (l : List Int) (k : Nat) : (thR Tb l k).length ≤ b * l.length := by
 unfold thR
 have : ∀ m : List Int, (m.flatMap fun x => By.rowOf Tb x.toNat).length ≤ b * m.length := by
  intro m
  induction m with
  | nil => simp
  | cons x m ih =>
   have := hb x.toNat
   rw [List.flatMap_cons, List.length_append, List.length_cons, Nat.mul_succ]; omega
 have h := this (l.take k)
 have h2 : (l.take k).length ≤ l.length := by rw [List.length_take]; omega
 exact Nat.le_trans h (Nat.mul_le_mul_left _ h2)
set_option maxRecDepth 100000 in
set_option maxHeartbeats 8000000 in
theorem through_any (w : World) (n tn : Nat) (A tA : Option Addr) (c tc : Nat) (L Tb : List (List Int)) (hn : n ≤ 24) (hL : L.length = n) (hT : Tb.length = tn) (hG : By.Gr w w.heap.size (.slice A n c) L) (hGT : By.Gr w w.heap.size (.slice tA tn tc) Tb)
  (hlb : ∀ i, (By.rowOf L i).length ≤ 100) (htb : ∀ i, (By.rowOf Tb i).length ≤ 100) (hmem : ∀ i j, j < (By.rowOf L i).length → ∃ X : Nat, (By.rowOf L i).getD j 0 = (X : Int) ∧ X < tn) :
  Calls Tryz.prog 60 #[.slice A n c, .slice tA tn tc] w (RowsA w n ((List.range n).map fun a => By.tidyRow ((By.rowOf L a).flatMap fun x => By.rowOf Tb x.toNat))) := by
 obtain ⟨iNf, hiN, hzN0, hzN1, hzN2⟩ := info_split infoInt
 have hmk := By.make_rows n (by omega)
 have HG := Lib.hid (fun W (hb : Below w.heap.size w W) => hG.below hb)
 have HGT := Lib.hid (fun W (hb : Below w.heap.size w W) => hGT.below hb)
 have HLL := Lib.hid hL
 have HTT := Lib.hid hT
 have HLB := Lib.hid hlb
 have HTB := Lib.hid htb
 have HME := Lib.hid hmem
 have HTH := Lib.hid (fun a k => show (thR Tb (By.rowOf L a) k).length ≤ 10000 from by
  have h1 := thR_len Tb 100 htb (By.rowOf L a) k
  have h2 := hlb a
  have : 100 * (By.rowOf L a).length ≤ 100 * 100 := Nat.mul_le_mul_left _ h2
  omega)
 have HR9 := Lib.hid (fun a => thR_all Tb (By.rowOf L a))
 have HMAP := Lib.hid (show ((List.range n).map fun a => (By.rowOf L a).flatMap fun x => By.rowOf Tb x.toNat).map By.tidyRow = (List.range n).map fun a => By.tidyRow ((By.rowOf L a).flatMap fun x => By.rowOf Tb x.toNat) from by rw [List.map_map]; rfl)
 rw [← HMAP.out]
 obtain ⟨rw9, hrw⟩ : ∃ x, (fun a => (By.rowOf L a).flatMap fun x => By.rowOf Tb x.toNat) = x := ⟨_, rfl⟩
 rw [hrw]
 have HRW := Lib.hid (show ∀ a, thR Tb (By.rowOf L a) (By.rowOf L a).length = rw9 a from fun a => by rw [← hrw]; exact HR9.out a)
 have HRL := Lib.hid (fun a => show (rw9 a).length ≤ 10000 from by rw [← HRW.out]; exact HTH.out a _)
 clear HMAP HR9 hrw hG hGT hlb htb hmem hL hT
 obtain ⟨W0, hW0⟩ : ∃ W0, w.alloc (.cells (Array.replicate n (.slice none 0 0)) 42) = W0 := ⟨_, rfl⟩
 have HB0 := Lib.hid (show Below w.heap.size w W0 from by rw [← hW0]; exact alloc_ _ _)
 have HO0 := Lib.hid (show By.OwnG W0 w.heap.size (w.heap.size + 1) 42 3 (rwsA n rw9 0) from by
  rw [rwsA_nil]
  refine By.OwnG.start W0 n _ ?_
  rw [← hW0]; exact Blk.new _ _ _)
 unfold RowsA
 go_enter Tryz.func60, Tryz.ntmps60
 go_wp2_with fail
 clear hW0
 go_loopw [15] (fun i9 wr => ∃ a : Nat, a ≤ n ∧ i9 = .int .i64 (a : Int) ∧ Hid (By.OwnG wr w.heap.size (w.heap.size + 1) 42 3 (rwsA n rw9 a)) ∧ Hid (Below w.heap.size w wr)) (fun i9 _ => n - (intOf i9).toNat)
 case atStart => exact ⟨0, Nat.zero_le _, rfl, HO0, HB0⟩
 case round =>
  obtain ⟨a, ha, rfl, HOG, HBW⟩ := hrel
  by_cases hlt : a < n
  ·have haI : (a : Int) < (n : Int) := by omega
   have ha0 : (0 : Int) ≤ (a : Int) := by omega
   have HLT := Lib.hid hlt
   obtain ⟨ad, lA, lc, rfl, hz1, z0, _⟩ := gr_at (HG.out wr HBW.out) HLL.out HBW.out.size hlt
   have HLI := Lib.hid (fun W (hb : Below w.heap.size w W) => show IL W lA (By.rowOf L a).length lc (By.rowOf L a) from by
    obtain ⟨ad2, lA2, lc2, e2, _, z2, hil2⟩ := gr_at (HG.out W hb) HLL.out hb.size HLT.out
    obtain ⟨ad3, lA3, lc3, e3, hz3, z3, _⟩ := gr_at (HG.out w (Below.refl _ _)) HLL.out (Nat.le_refl _) HLT.out
    obtain rfl := Option.some.inj e2
    obtain rfl := Option.some.inj e3
    have e1 := (hb.cell (p := ad.add a) (by rw [add_block]; exact hz3)).trans z3
    have e4 := (HBW.out.cell (p := ad.add a) (by rw [add_block]; exact hz3)).trans z3
    rw [z2] at e1
    rw [z0] at e4
    have e5 := Option.some.inj (e4.trans e1.symm)
    injection e5 with e6 _ e7
    rw [e6, e7]; exact hil2)
   have HLE := Lib.hid (HLB.out a)
   have HMA := Lib.hid (HME.out a)
   have HTA := Lib.hid (HTH.out a)
   have HRA := Lib.hid (HRW.out a)
   obtain ⟨l, hl⟩ : ∃ l, By.rowOf L a = l := ⟨_, rfl⟩
   rw [hl] at HLI HLE HMA HTA HRA z0
   clear hl
   obtain ⟨ln, hln⟩ : ∃ k, l.length = k := ⟨_, rfl⟩
   rw [hln] at HLI HLE HMA HRA z0
   have HLN := Lib.hid hln
   clear hln
   have hle := HLE.out
   go_wp2_with fail
   clear z0
   have HOY := Lib.hid (show By.OwnG wr w.heap.size (w.heap.size + 1) 42 3 ((rwsA n rw9 a).set a (thR Tb l 0)) from by
    have h2 : (rwsA n rw9 a).set a (thR Tb l 0) = rwsA n rw9 a := set_nil HLT.out
    rw [h2]; exact HOG.out)
   go_loopw [22] (fun i9 wr => ∃ k : Nat, k ≤ ln ∧ i9 = .int .i64 (k : Int) ∧ Hid (By.OwnG wr w.heap.size (w.heap.size + 1) 42 3 ((rwsA n rw9 a).set a (thR Tb l k))) ∧ Hid (Below w.heap.size w wr)) (fun i9 _ => ln - (intOf i9).toNat)
   case atStart => exact ⟨0, Nat.zero_le _, rfl, HOY, HBW⟩
   case round =>
    obtain ⟨k, hk, rfl, HOG, HBW⟩ := hrel
    by_cases hkl : k < ln
    ·have hkI : (k : Int) < (ln : Int) := by omega
     have hk0 : (0 : Int) ≤ (k : Int) := by omega
     have HKL := Lib.hid hkl
     obtain ⟨lad, rfl, _, y0⟩ := (HLI.out wr HBW.out).at_ hkl
     obtain ⟨X, hX, hXt⟩ := HMA.out k hkl
     have HTS := Lib.hid (thR_succ Tb l k X (by rw [HLN.out]; exact hkl) hX)
     rw [hX] at y0
     clear hX
     have hXI : (X : Int) < (tn : Int) := by omega
     have hX0 : (0 : Int) ≤ (X : Int) := by omega
     obtain ⟨tad, A', c', rfl, hz1, z0, hil⟩ := gr_at (HGT.out wr HBW.out) HTT.out HBW.out.size hXt
     have HZT := Lib.hid (show tad.block < w.heap.size from by
      obtain ⟨ad3, _, _, e3, hz3, _, _⟩ := gr_at (HGT.out w (Below.refl _ _)) HTT.out (Nat.le_refl _) hXt
      obtain rfl := Option.some.inj e3
      exact hz3)
     have hlR := HTB.out X
     have hlX := HTA.out k
     have HO3 := HOG.out
     obtain ⟨rv, hcell, hfr, hone, hrow, ⟨RA, RC, hrv⟩, hput⟩ := HO3.at_ (by omega) (a := a) (by rw [List.length_set, rwsA_len]; exact HLT.out)
     rw [set_row HLT.out] at hrow hrv
     have HP9 := Lib.hid (show ∀ (rv' : Value) (l9 : List Int) (w1 : World), rv'.oneCell' = true → w1.ownsRow (w.heap.size + 1) 3 1 rv' l9.length (By.ints l9) → (rv'.ownBlock = none ∨ rv'.ownBlock = rv.ownBlock ∨ ∃ k, rv'.ownBlock = some k ∧ wr.heap.size ≤ k) →
       (∀ g, (g = w.heap.size ∨ w.heap.size + 1 ≤ g) → g < wr.heap.size → rv.ownBlock ≠ some g → w1.heap[g]? = wr.heap[g]?) → By.OwnG (w1.setCell ⟨w.heap.size, a, none⟩ rv') w.heap.size (w.heap.size + 1) 42 3 ((rwsA n rw9 a).set a l9) from fun rv' l9 w1 g1 g2 g3 g4 => by
      have g5 := hput rv' l9 w1 g1 g2 g3 g4
      rwa [List.set_set] at g5)
     obtain ⟨XL, hXL⟩ : ∃ x, thR Tb l k = x := ⟨_, rfl⟩
     obtain ⟨YL, hYL⟩ : ∃ x, By.rowOf Tb X = x := ⟨_, rfl⟩
     rw [hXL] at hrow hrv hlX HTS
     rw [hYL] at hlR HTS z0 hil
     clear hXL hYL
     have hlt3 := HO3.lt
     have HRB := Lib.hid (show some w.heap.size ≠ rv.ownBlock from fun e => by have := (hrow.lt _ e.symm).1; omega)
     have HBS := Lib.hid (show ∀ r, rv.ownBlock = some r → w.heap.size + 1 ≤ r from fun r e => (hrow.lt r e).1)
     have HL1 : XL.length + YL.length ≤ maxLen := by unfold maxLen; omega
     have HL2 : (XL.length + YL.length) * 8 ≤ 140737488355328 := by omega
     have HEnd := Lib.hid (show ∀ (rA : Option Addr) (rc : Nat) (w' : World), w'.ownsRow (w.heap.size + 1) 3 1 (.slice rA (XL.length + YL.length) rc) (XL.length + YL.length) (By.ints XL ++ YL.flatMap encI) →
       wr.drew.grownBy w' rv.ownBlock →
       ((Value.slice rA (XL.length + YL.length) rc).ownBlock = rv.ownBlock ∨ (Value.slice rA (XL.length + YL.length) rc).ownBlock = some wr.drew.heap.size) →
       By.OwnG (w'.setCell ⟨w.heap.size, a, none⟩ (.slice rA (XL.length + YL.length) rc)) w.heap.size (w.heap.size + 1) 42 3 ((rwsA n rw9 a).set a (thR Tb l (k + 1))) ∧
       Below w.heap.size w (w'.setCell ⟨w.heap.size, a, none⟩ (.slice rA (XL.length + YL.length) rc)) from by
      intro rA rc w' h2 h3 h4
      refine ⟨?_, ?_⟩
      ·have h5 := HP9.out (.slice rA (XL.length + YL.length) rc) (XL ++ YL) w' rfl (by rw [flat_encI] at h2; rw [List.length_append]; simpa [By.ints] using h2)
        (by
         rcases h4 with h4 | h4
         ·exact .inr (.inl h4)
         ·exact .inr (.inr ⟨_, h4, Nat.le_refl _⟩))
        (fun k hk hlt hne => h3.block k hlt (fun e => hne e.symm))
       rw [HTS.out]; exact h5
      ·refine (HBW.out.drew.trans ?_).setCell (p := ⟨w.heap.size, a, none⟩) (Nat.le_refl _) _
       exact (Below.refl w.heap.size wr.drew).grown h3 (by show w.heap.size ≤ wr.heap.size; omega) fun r e => by have := HBS.out r e; omega)
     have HTN := Lib.hid (show ∀ w', wr.drew.grownBy w' rv.ownBlock → w'.cell? (tad.add X) = some (.slice A' YL.length c') from fun w' h3 =>
      h3.cell (show wr.drew.cell? (tad.add X) = _ from z0) (fun e => by
       have h7 := HBS.out _ e.symm
       rw [add_block] at h7
       have := HZT.out
       omega))
     subst hrv
     have hrowD : wr.drew.ownsRow (w.heap.size + 1) 3 1 (.slice RA XL.length RC) XL.length (By.ints XL) := hrow
     have hilD : IL wr.drew A' YL.length c' YL := hil.on (Below.refl _ wr).drew
     have hcellD : wr.drew.cell? ⟨w.heap.size, a, none⟩ = some (.slice RA XL.length RC) := hcell
     have hfrD : wr.drew.frozen? ⟨w.heap.size, a, none⟩ = false := hfr
     have z0D : wr.drew.cell? (tad.add X) = some (.slice A' YL.length c') := z0
     have HTO : Hid (∀ (w' : World) u, w'.cell? (tad.add X) = some (.slice A' YL.length c') → (w'.setCell ⟨w.heap.size, a, none⟩ u).cell? (tad.add X) = some (.slice A' YL.length c')) := fun w' u h => by
      rw [World.cell?_setCell_other _ _ _ _ (by
       intro e
       have e8 : (tad.add X).block = w.heap.size := congrArg Addr.block e.symm
       rw [add_block] at e8
       have := HZT.out
       omega)]
      exact h
     clear hput hone HO3 hrow hil
     go_wp2_with fail
     clear y0
     refine wp_region_noPanic ?_
     refine wp_region_held_drew (S := fun W => W.cell? (tad.add X) = some (.slice A' YL.length c')) (by kernel_rfl) z0 (fun hHeld => ?_)
     refine tkZ 0 rfl hHeld ?_
     try simp only [Act.put, nmZ]
     refine tkZ 1 rfl hHeld ?_
     try simp only [Act.put, nmZ]
     refine tkZ 2 rfl hHeld ?_
     try simp only [Act.put, nmZ]
     refine tkZ 3 rfl hHeld ?_
     try simp only [Act.put, nmZ]
     refine tkZ 4 rfl hHeld ?_
     try simp only [Act.put, nmZ]
     refine tkZ 6 rfl hHeld ?_
     try simp only [Act.put, nmZ]
     refine tkZ 7 rfl hHeld ?_
     try simp only [Act.put, nmZ]
     refine tkZ 8 rfl hHeld ?_
     try simp only [Act.put, nmZ]
     refine tkZ 9 rfl hHeld ?_
     try simp only [Act.put, nmZ]
     refine wpAnyH_ready (rs := [5]) (by kernel_rfl) (by simp) ?_
     refine AllReadyH.cons rfl (fun K hK => ?_) AllReadyH.nil
     go_simp
     refine hK.out _ _ (hHeld) ?_
     clear hK K hHeld
     intro hHeld
     try simp only [Act.put, nmZ]
     refine wpAnyH_ready (rs := [10]) (by kernel_rfl) (by simp) ?_
     refine AllReadyH.cons rfl (fun K hK => ?_) AllReadyH.nil
     refine step_append_wd (enc := encI) rfl (.tmp 31) (.tmp 35) 42 rfl (w.heap.size + 1) 3 iNf (.int .i64 0) 1 8 Tryz.underlying42 hiN hzN0 hzN1 hzN2 rfl (by omega) (fun _ => rfl) encI_one _ _ _ rfl hrowD A' YL.length c' YL rfl hilD HL1 HL2 (by show w.heap.size + 1 ≤ wr.heap.size; omega) ?_
     intro v' w' h2 h3 h4
     obtain ⟨rA, rc, rfl⟩ := By.own_form h2
     have hrb' := h3.cell hcellD HRB.out
     have hfr' : w'.frozen? ⟨w.heap.size, a, none⟩ = false := (World.frozen?_of_block (h3.block w.heap.size (World.block_lt_of_cell? _ _ hcellD) HRB.out)).trans hfrD
     have HT4 := HTN.out _ h3
     have h5 := HEnd.out _ _ _ h2 h3 h4
     have H51 := Lib.hid h5.1
     have H52 := Lib.hid h5.2
     clear h2 h3 h4 h5 hcell hfr hrowD hcellD hfrD z0 z0D hilD
     refine hK.out _ _ (HT4) ?_
     clear hK K hHeld
     intro hHeld
     try simp only [Act.put, nmZ]
     refine wpAnyH_ready (rs := [11]) (by kernel_rfl) (by simp) ?_
     refine AllReadyH.cons rfl (fun K hK => ?_) AllReadyH.nil
     go_simp
     refine hK.out _ _ (HT4) ?_
     clear hK K hHeld
     intro hHeld
     try simp only [Act.put, nmZ]
     refine wpAnyH_ready (rs := [12]) (by kernel_rfl) (by simp) ?_
     refine AllReadyH.cons rfl (fun K hK => ?_) AllReadyH.nil
     go_simp
     refine hK.out _ _ (HTO.out _ _ HT4) ?_
     clear hK K hHeld
     intro hHeld
     try simp only [Act.put, nmZ]
     refine wpAnyH_done (by kernel_rfl) ?_ _
     refine NoPanic.normal ?_
     go_wp2_with fail
     go_roundw
     case rel => exact ⟨k + 1, by have := HKL.out; omega, by go_num, H51, H52⟩
     case measure => have := HKL.out; simp [intOf]; omega
    ·obtain rfl : ln = k := by omega
     have HO9 := Lib.hid (show By.OwnG wr w.heap.size (w.heap.size + 1) 42 3 (rwsA n rw9 (a + 1)) from by
      have h1 := HOG.out
      rw [HRA.out, rwsA_set HLT.out] at h1; exact h1)
     go_wp2_with fail
     go_roundw
     case rel => exact ⟨a + 1, by have := HLT.out; omega, by go_num, HO9, HBW⟩
     case measure => have := HLT.out; simp [intOf]; omega
  ·obtain rfl : n = a := by omega
   have hct := By.ctidy_any wr w.heap.size (w.heap.size + 1) (rwsA n rw9 n) HOG.out (by omega) (by rw [rwsA_len]; omega) (fun i => by
    by_cases hi : i < n
    ·rw [rwsA_row hi, if_pos hi]; have := HRL.out i; omega
    ·unfold By.rowOf
     rw [List.getD_eq_getElem?_getD, List.getElem?_eq_none (by rw [rwsA_len]; omega)]; simp)
   rw [rwsA_len, rwsA_all] at hct
   have HCT := Lib.hid hct
   have HLW := Lib.hid HOG.out.lt
   clear hct
   go_wp2_with (go_at_call 99; refine HCT.out.mono ?_; rintro e w2 ⟨rfl, hO2, hK2⟩; have HO2 := Lib.hid hO2; have HK2 := Lib.hid hK2; clear hO2 hK2)
   go_ret
   exact ⟨_, _, rfl, HO2.out, by omega, by omega, HBW.out.trans (HK2.out.below HBW.out.size (fun k hk => by omega))⟩
end Go.Proofs.YtnenmgefgdpkdaaGreat.Bo
