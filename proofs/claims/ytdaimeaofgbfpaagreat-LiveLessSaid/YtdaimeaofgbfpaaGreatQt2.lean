/-
 Qw2 Qx2 Qt2
-/
import Derived.Test.YtdaimeaofgbfpaaGreatZa2
import Derived.Test.YtdaimeaofgbfpaaGreatQv2
set_option linter.unusedSimpArgs false
set_option linter.unusedVariables false
namespace Go.Proofs.YtdaimeaofgbfpaaGreat.Bo
open Go.RowKit Go.Maps
open Mem Rf
def thR (Tb : List (List Int)) (l : List Int) (k : Nat) : List Int := (l.take k).flatMap fun x => By.rowOf Tb x.toNat
theorem thR_succ (Tb : List (List Int)) (l : List Int) (k X : Nat) (hk : k < l.length) (h : l.getD k 0 = (X : Int)) : thR Tb l (k + 1) = thR Tb l k ++ By.rowOf Tb X := by
 have e : l[k]? = some (X : Int) := by
  rw [List.getD_eq_getElem?_getD, List.getElem?_eq_getElem hk] at h
  rw [List.getElem?_eq_getElem hk]; exact congrArg some h
 unfold thR
 rw [List.take_add_one, e, List.flatMap_append]; simp
theorem thR_all (Tb : List (List Int)) (l : List Int) : thR Tb l l.length = l.flatMap fun x => By.rowOf Tb x.toNat := by unfold thR; rw [List.take_length]
theorem thR_len (Tb : List (List Int)) (b : Nat) (hb : ∀ i, (By.rowOf Tb i).length ≤ b) (l : List Int) (k : Nat) : (thR Tb l k).length ≤ b * l.length := by
 unfold thR
 have : ∀ m : List Int, (m.flatMap fun x => By.rowOf Tb x.toNat).length ≤ b * m.length := by
  intro m
  induction m with
  | nil => simp
  | cons x m ih =>
   have := hb x.toNat
   rw [List.flatMap_cons, List.length_append, List.length_cons, Nat.mul_succ]; omega
 have h := this (l.take k)
 have h2 : (l.take k).length ≤ l.length := by rw [List.length_take]; omega
 exact Nat.le_trans h (Nat.mul_le_mul_left _ h2)
set_option maxRecDepth 100000 in
set_option maxHeartbeats 8000000 in
theorem through_any (w : World) (n tn : Nat) (A tA : Option Addr) (c tc : Nat) (L Tb : List (List Int)) (hn : n ≤ 24) (hL : L.length = n) (hT : Tb.length = tn) (hG : By.Gr w w.heap.size (.slice A n c) L) (hGT : By.Gr w w.heap.size (.slice tA tn tc) Tb)
  (hlb : ∀ i, (By.rowOf L i).length ≤ 100) (htb : ∀ i, (By.rowOf Tb i).length ≤ 100) (hmem : ∀ i j, j < (By.rowOf L i).length → ∃ X : Nat, (By.rowOf L i).getD j 0 = (X : Int) ∧ X < tn) :
  Calls Tryz.prog 90 #[.slice A n c, .slice tA tn tc] w (RowsA w n ((List.range n).map fun a => By.tidyRow ((By.rowOf L a).flatMap fun x => By.rowOf Tb x.toNat))) := by
 obtain ⟨iNf, hiN, hzN0, hzN1, hzN2⟩ := info_split infoInt
 have hmk := By.make_rows n (by omega)
 have HG := Hd (fun W (hb : Below w.heap.size w W) => hG.below hb)
 have HGT := Hd (fun W (hb : Below w.heap.size w W) => hGT.below hb)
 have HLL := Hd hL
 have HTT := Hd hT
 have HLB := Hd hlb
 have HTB := Hd htb
 have HME := Hd hmem
 have HTH := Hd (fun a k => show (thR Tb (By.rowOf L a) k).length ≤ 10000 from by
  have h1 := thR_len Tb 100 htb (By.rowOf L a) k
  have h2 := hlb a
  have : 100 * (By.rowOf L a).length ≤ 100 * 100 := Nat.mul_le_mul_left _ h2
  omega)
 have HR9 := Hd (fun a => thR_all Tb (By.rowOf L a))
 have HMAP := Hd (show ((List.range n).map fun a => (By.rowOf L a).flatMap fun x => By.rowOf Tb x.toNat).map By.tidyRow = (List.range n).map fun a => By.tidyRow ((By.rowOf L a).flatMap fun x => By.rowOf Tb x.toNat) from by rw [List.map_map]; rfl)
 rw [← HMAP.out]
 obtain ⟨rw9, hrw⟩ : ∃ x, (fun a => (By.rowOf L a).flatMap fun x => By.rowOf Tb x.toNat) = x := ⟨_, rfl⟩
 rw [hrw]
 have HRW := Hd (show ∀ a, thR Tb (By.rowOf L a) (By.rowOf L a).length = rw9 a from fun a => by rw [← hrw]; exact HR9.out a)
 have HRL := Hd (fun a => show (rw9 a).length ≤ 10000 from by rw [← HRW.out]; exact HTH.out a _)
 clear HMAP HR9 hrw hG hGT hlb htb hmem hL hT
 obtain ⟨W0, hW0⟩ : ∃ W0, w.alloc (.cells (Array.replicate n (.slice none 0 0)) 44) = W0 := ⟨_, rfl⟩
 have HB0 := Hd (show Below w.heap.size w W0 from by rw [← hW0]; exact alloc_ _ _)
 have HO0 := Hd (show By.OwnG W0 w.heap.size (w.heap.size + 1) 44 3 (rwsA n rw9 0) from by
  rw [rwsA_nil]
  refine By.OwnG.start W0 n _ ?_
  rw [← hW0]; exact Blk.new _ _ _)
 unfold RowsA
 go_enter Tryz.func90, Tryz.ntmps90
 go_wp2_with fail
 clear hW0
 go_loopw [15] (fun i9 wr => ∃ a : Nat, a ≤ n ∧ i9 = .int .i64 (a : Int) ∧ Hid (By.OwnG wr w.heap.size (w.heap.size + 1) 44 3 (rwsA n rw9 a)) ∧ Hid (Below w.heap.size w wr)) (fun i9 _ => n - (intOf i9).toNat)
 case atStart => exact ⟨0, Nat.zero_le _, rfl, HO0, HB0⟩
 case round =>
  obtain ⟨a, ha, rfl, HOG, HBW⟩ := hrel
  by_cases hlt : a < n
  ·have haI : (a : Int) < (n : Int) := by omega
   have ha0 : (0 : Int) ≤ (a : Int) := by omega
   have HLT := Hd hlt
   obtain ⟨ad, lA, lc, rfl, hz1, z0, _⟩ := gr_at (HG.out wr HBW.out) HLL.out HBW.out.size hlt
   have HLI := Hd (fun W (hb : Below w.heap.size w W) => show IL W lA (By.rowOf L a).length lc (By.rowOf L a) from by
    obtain ⟨ad2, lA2, lc2, e2, _, z2, hil2⟩ := gr_at (HG.out W hb) HLL.out hb.size HLT.out
    obtain ⟨ad3, lA3, lc3, e3, hz3, z3, _⟩ := gr_at (HG.out w (Below.refl _ _)) HLL.out (Nat.le_refl _) HLT.out
    obtain rfl := Option.some.inj e2
    obtain rfl := Option.some.inj e3
    have e1 := (hb.cell (p := ad.add a) (by rw [add_block]; exact hz3)).trans z3
    have e4 := (HBW.out.cell (p := ad.add a) (by rw [add_block]; exact hz3)).trans z3
    rw [z2] at e1
    rw [z0] at e4
    have e5 := Option.some.inj (e4.trans e1.symm)
    injection e5 with e6 _ e7
    rw [e6, e7]; exact hil2)
   have HLE := Hd (HLB.out a)
   have HMA := Hd (HME.out a)
   have HTA := Hd (HTH.out a)
   have HRA := Hd (HRW.out a)
   obtain ⟨l, hl⟩ : ∃ l, By.rowOf L a = l := ⟨_, rfl⟩
   rw [hl] at HLI HLE HMA HTA HRA z0
   clear hl
   obtain ⟨ln, hln⟩ : ∃ k, l.length = k := ⟨_, rfl⟩
   rw [hln] at HLI HLE HMA HRA z0
   have HLN := Hd hln
   clear hln
   have hle := HLE.out
   go_wp2_with fail
   clear z0
   have HOY := Hd (show By.OwnG wr w.heap.size (w.heap.size + 1) 44 3 ((rwsA n rw9 a).set a (thR Tb l 0)) from by
    have h2 : (rwsA n rw9 a).set a (thR Tb l 0) = rwsA n rw9 a := set_nil HLT.out
    rw [h2]; exact HOG.out)
   go_loopw [22] (fun i9 wr => ∃ k : Nat, k ≤ ln ∧ i9 = .int .i64 (k : Int) ∧ Hid (By.OwnG wr w.heap.size (w.heap.size + 1) 44 3 ((rwsA n rw9 a).set a (thR Tb l k))) ∧ Hid (Below w.heap.size w wr)) (fun i9 _ => ln - (intOf i9).toNat)
   case atStart => exact ⟨0, Nat.zero_le _, rfl, HOY, HBW⟩
   case round =>
    obtain ⟨k, hk, rfl, HOG, HBW⟩ := hrel
    by_cases hkl : k < ln
    ·have hkI : (k : Int) < (ln : Int) := by omega
     have hk0 : (0 : Int) ≤ (k : Int) := by omega
     have HKL := Hd hkl
     obtain ⟨lad, rfl, _, y0⟩ := (HLI.out wr HBW.out).at_ hkl
     obtain ⟨X, hX, hXt⟩ := HMA.out k hkl
     have HTS := Hd (thR_succ Tb l k X (by rw [HLN.out]; exact hkl) hX)
     rw [hX] at y0
     clear hX
     have hXI : (X : Int) < (tn : Int) := by omega
     have hX0 : (0 : Int) ≤ (X : Int) := by omega
     obtain ⟨tad, A', c', rfl, hz1, z0, hil⟩ := gr_at (HGT.out wr HBW.out) HTT.out HBW.out.size hXt
     have HZT := Hd (show tad.block < w.heap.size from by
      obtain ⟨ad3, _, _, e3, hz3, _, _⟩ := gr_at (HGT.out w (Below.refl _ _)) HTT.out (Nat.le_refl _) hXt
      obtain rfl := Option.some.inj e3
      exact hz3)
     have hlR := HTB.out X
     have hlX := HTA.out k
     have HO3 := HOG.out
     obtain ⟨rv, hcell, hfr, hone, hrow, ⟨RA, RC, hrv⟩, hput⟩ := HO3.at_ (by omega) (a := a) (by rw [List.length_set, rwsA_len]; exact HLT.out)
     rw [set_row HLT.out] at hrow hrv
     have HP9 := Hd (show ∀ (rv' : Value) (l9 : List Int) (w1 : World), rv'.oneCell' = true → w1.ownsRow (w.heap.size + 1) 3 1 rv' l9.length (By.ints l9) → (rv'.ownBlock = none ∨ rv'.ownBlock = rv.ownBlock ∨ ∃ k, rv'.ownBlock = some k ∧ wr.heap.size ≤ k) →
       (∀ g, (g = w.heap.size ∨ w.heap.size + 1 ≤ g) → g < wr.heap.size → rv.ownBlock ≠ some g → w1.heap[g]? = wr.heap[g]?) → By.OwnG (w1.setCell ⟨w.heap.size, a, none⟩ rv') w.heap.size (w.heap.size + 1) 44 3 ((rwsA n rw9 a).set a l9) from fun rv' l9 w1 g1 g2 g3 g4 => by
      have g5 := hput rv' l9 w1 g1 g2 g3 g4
      rwa [List.set_set] at g5)
     obtain ⟨XL, hXL⟩ : ∃ x, thR Tb l k = x := ⟨_, rfl⟩
     obtain ⟨YL, hYL⟩ : ∃ x, By.rowOf Tb X = x := ⟨_, rfl⟩
     rw [hXL] at hrow hrv hlX HTS
     rw [hYL] at hlR HTS z0 hil
     clear hXL hYL
     have hlt3 := HO3.lt
     have HRB := Hd (show some w.heap.size ≠ rv.ownBlock from fun e => by have := (hrow.lt _ e.symm).1; omega)
     have HBS := Hd (show ∀ r, rv.ownBlock = some r → w.heap.size + 1 ≤ r from fun r e => (hrow.lt r e).1)
     have HL1 : XL.length + YL.length ≤ maxLen := by unfold maxLen; omega
     have HL2 : (XL.length + YL.length) * 8 ≤ 140737488355328 := by omega
     have HEnd := Hd (show ∀ (rA : Option Addr) (rc : Nat) (w' : World), w'.ownsRow (w.heap.size + 1) 3 1 (.slice rA (XL.length + YL.length) rc) (XL.length + YL.length) (By.ints XL ++ YL.flatMap encI) →
       wr.drew.grownBy w' rv.ownBlock →
       ((Value.slice rA (XL.length + YL.length) rc).ownBlock = rv.ownBlock ∨ (Value.slice rA (XL.length + YL.length) rc).ownBlock = some wr.drew.heap.size) →
       By.OwnG (w'.setCell ⟨w.heap.size, a, none⟩ (.slice rA (XL.length + YL.length) rc)) w.heap.size (w.heap.size + 1) 44 3 ((rwsA n rw9 a).set a (thR Tb l (k + 1))) ∧
       Below w.heap.size w (w'.setCell ⟨w.heap.size, a, none⟩ (.slice rA (XL.length + YL.length) rc)) from by
      intro rA rc w' h2 h3 h4
      refine ⟨?_, ?_⟩
      ·have h5 := HP9.out (.slice rA (XL.length + YL.length) rc) (XL ++ YL) w' rfl (by rw [flat_encI] at h2; rw [List.length_append]; simpa [By.ints] using h2)
        (by
         rcases h4 with h4 | h4
         ·exact .inr (.inl h4)
         ·exact .inr (.inr ⟨_, h4, Nat.le_refl _⟩))
        (fun k hk hlt hne => h3.block k hlt (fun e => hne e.symm))
       rw [HTS.out]; exact h5
      ·refine (HBW.out.drew.trans ?_).setCell (p := ⟨w.heap.size, a, none⟩) (Nat.le_refl _) _
       exact (Below.refl w.heap.size wr.drew).grown h3 (by show w.heap.size ≤ wr.heap.size; omega) fun r e => by have := HBS.out r e; omega)
     have HTN := Hd (show ∀ w', wr.drew.grownBy w' rv.ownBlock → w'.cell? (tad.add X) = some (.slice A' YL.length c') from fun w' h3 =>
      h3.cell (show wr.drew.cell? (tad.add X) = _ from z0) (fun e => by
       have h7 := HBS.out _ e.symm
       rw [add_block] at h7
       have := HZT.out
       omega))
     subst hrv
     have hrowD : wr.drew.ownsRow (w.heap.size + 1) 3 1 (.slice RA XL.length RC) XL.length (By.ints XL) := hrow
     have hilD : IL wr.drew A' YL.length c' YL := hil.on (Below.refl _ wr).drew
     have hcellD : wr.drew.cell? ⟨w.heap.size, a, none⟩ = some (.slice RA XL.length RC) := hcell
     have hfrD : wr.drew.frozen? ⟨w.heap.size, a, none⟩ = false := hfr
     have z0D : wr.drew.cell? (tad.add X) = some (.slice A' YL.length c') := z0
     have HTO : Hid (∀ (w' : World) u, w'.cell? (tad.add X) = some (.slice A' YL.length c') → (w'.setCell ⟨w.heap.size, a, none⟩ u).cell? (tad.add X) = some (.slice A' YL.length c')) := fun w' u h => by
      rw [World.cell?_setCell_other _ _ _ _ (by
       intro e
       have e8 : (tad.add X).block = w.heap.size := congrArg Addr.block e.symm
       rw [add_block] at e8
       have := HZT.out
       omega)]
      exact h
     clear hput hone HO3 hrow hil
     go_wp2_with fail
     clear y0
     refine wp_region_noPanic ?_
     refine wp_region_held_drew (S := fun W => W.cell? (tad.add X) = some (.slice A' YL.length c')) (by kernel_rfl) z0 (fun hHeld => ?_)
     refine tk8Z 0 1 2 3 4 6 7 8 hHeld ?_
     refine tk1Z 9 hHeld ?_
     refine rd1Z 5 (fun K hK => ?_)
     go_simp
     refine hK.out _ _ (hHeld) ?_
     clear hK K hHeld
     intro hHeld
     try simp only [Act.put, nmZ]
     refine rd1Z 10 (fun K hK => ?_)
     refine step_append_wd (enc := encI) rfl (.tmp 31) (.tmp 35) 44 rfl (w.heap.size + 1) 3 iNf (.int .i64 0) 1 8 Tryz.underlying44 hiN hzN0 hzN1 hzN2 rfl (by omega) (fun _ => rfl) encI_one _ _ _ rfl hrowD A' YL.length c' YL rfl hilD HL1 HL2 (by show w.heap.size + 1 ≤ wr.heap.size; omega) ?_
     intro v' w' h2 h3 h4
     obtain ⟨rA, rc, rfl⟩ := By.own_form h2
     have hrb' := h3.cell hcellD HRB.out
     have hfr' : w'.frozen? ⟨w.heap.size, a, none⟩ = false := (World.frozen?_of_block (h3.block w.heap.size (World.block_lt_of_cell? _ _ hcellD) HRB.out)).trans hfrD
     have HT4 := HTN.out _ h3
     have h5 := HEnd.out _ _ _ h2 h3 h4
     have H51 := Hd h5.1
     have H52 := Hd h5.2
     clear h2 h3 h4 h5 hcell hfr hrowD hcellD hfrD z0 z0D hilD
     refine hK.out _ _ (HT4) ?_
     clear hK K hHeld
     intro hHeld
     try simp only [Act.put, nmZ]
     refine rd1Z 11 (fun K hK => ?_)
     go_simp
     refine hK.out _ _ (HT4) ?_
     clear hK K hHeld
     intro hHeld
     try simp only [Act.put, nmZ]
     refine rd1Z 12 (fun K hK => ?_)
     go_simp
     refine hK.out _ _ (HTO.out _ _ HT4) ?_
     clear hK K hHeld
     intro hHeld
     try simp only [Act.put, nmZ]
     refine wpAnyH_done (by kernel_rfl) ?_ _
     refine NoPanic.normal ?_
     go_wp2_with fail
     go_roundw
     case rel => exact ⟨k + 1, by have := HKL.out; omega, by go_num, H51, H52⟩
     case measure => have := HKL.out; simp [intOf]; omega
    ·obtain rfl : ln = k := by omega
     have HO9 := Hd (show By.OwnG wr w.heap.size (w.heap.size + 1) 44 3 (rwsA n rw9 (a + 1)) from by
      have h1 := HOG.out
      rw [HRA.out, rwsA_set HLT.out] at h1; exact h1)
     go_wp2_with fail
     go_roundw
     case rel => exact ⟨a + 1, by have := HLT.out; omega, by go_num, HO9, HBW⟩
     case measure => have := HLT.out; simp [intOf]; omega
  ·obtain rfl : n = a := by omega
   have hct := By.ctidy_any wr w.heap.size (w.heap.size + 1) (rwsA n rw9 n) HOG.out (by omega) (by rw [rwsA_len]; omega) (fun i => by
    by_cases hi : i < n
    ·rw [rwsA_row hi, if_pos hi]; have := HRL.out i; omega
    ·unfold By.rowOf
     rw [List.getD_eq_getElem?_getD, List.getElem?_eq_none (by rw [rwsA_len]; omega)]; simp)
   rw [rwsA_len, rwsA_all] at hct
   have HCT := Hd hct
   have HLW := Hd HOG.out.lt
   clear hct
   go_wp2_with (go_at_call 127; refine HCT.out.mono ?_; rintro e w2 ⟨rfl, hO2, hK2⟩; have HO2 := Hd hO2; have HK2 := Hd hK2; clear hO2 hK2)
   go_ret
   exact ⟨_, _, rfl, HO2.out, by omega, by omega, HBW.out.trans (HK2.out.below HBW.out.size (fun k hk => by omega))⟩
theorem RowsA.lift {w W : World} {n : Nat} {L : List (List Int)} {e : Ending} {w' : World} (h : RowsA W n L e w') (hb : Below w.heap.size w W) : RowsA w n L e w' := by
 obtain ⟨rb, base, h1, h2, h3, h4, h5⟩ := h
 exact ⟨rb, base, h1, h2, Nat.le_trans hb.size h3, h4, to_ hb h5⟩
theorem il_blk {W : World} {g : Nat} {l : List Int} (h : Blk W g 3 (By.ints l).toArray) (hl : l.length ≤ maxLen) : IL W (some ⟨g, 0, none⟩) l.length l.length l :=
 ⟨rfl, Nat.le_refl _, hl, (fun e => by cases e), fun i x hi => ⟨_, rfl, h.lt, fun j u hu => by
  rcases j with _ | j
  ·have e : Value.int .i64 x = u := by simpa [encI] using hu
   subst e
   have h2 := h.cell i
   have h3 : (By.ints l).toArray[i]? = some (.int .i64 x) := by simp [By.ints, hi]
   rw [h3] at h2
   simpa [add_plain] using h2
  ·simp [encI] at hu⟩⟩
set_option maxRecDepth 100000 in
set_option maxHeartbeats 8000000 in
theorem direct_any (w : World) (P : Pgm) (h : PgR w P) : Calls Tryz.prog 50 #[pgV P] w (RowsA w P.fn ((List.range P.fn).map fun a => By.tidyRow (gatP P [19, 21] (tlR (P.fn : Int)) a))) := by
 have HGA := Hd (fun W (hb : Below w.heap.size w W) g9 (hg : W.cell? ⟨g9, 0, none⟩ = some (.int .i64 (P.fn : Int))) gs (hs : Blk W gs 3 #[.int .i64 19, .int .i64 21]) =>
  gatherR_any W P (h.on hb) g9 (P.fn : Int) hg _ 2 2 [19, 21] (il_blk (l := [19, 21]) hs (by unfold maxLen; simp)) (by omega) gs 0 rfl)
 have HRF := Hd (fun W => referred_any (P.fn : Int) W)
 obtain ⟨Q, hQ⟩ : ∃ Q, (List.range P.fn).map (fun a => By.tidyRow (gatP P [19, 21] (tlR (P.fn : Int)) a)) = Q := ⟨_, rfl⟩
 rw [hQ] at HGA ⊢
 clear h hQ
 obtain ⟨fA, fn, fc, fs, dA, dn, dc, ds, en, cs⟩ := P
 unfold pgV at HGA ⊢
 dsimp only at HGA HRF ⊢
 obtain ⟨m9, hm9⟩ : ∃ m9 : Int, m9 = ((fn : Nat) : Int) := ⟨_, rfl⟩
 obtain ⟨W0, hW0⟩ : ∃ W0, w.alloc (.cells #[.slice fA fn fc, .slice dA dn dc, .int .i64 en] 29) = W0 := ⟨_, rfl⟩
 have HBW := Hd (show Below w.heap.size w W0 from by rw [← hW0]; exact alloc_ _ _)
 have HP0 := Hd (show Blk W0 w.heap.size 29 #[.slice fA fn fc, .slice dA dn dc, .int .i64 en] from by rw [← hW0]; exact Blk.new _ _ _)
 obtain ⟨b0, b1, b2⟩ := q3Z HP0.out
 go_enter Tryz.func50, Tryz.ntmps50
 go_wp2_with fail
 clear hW0 HP0
 refine wp_region_noPanic ?_
 refine wp_region_held_drew (S := fun W => W.cell? ⟨w.heap.size, 0, none⟩ = some (.slice fA fn fc) ∧ W.cell? ⟨w.heap.size, 1, none⟩ = some (.slice dA dn dc) ∧ W.cell? ⟨w.heap.size, 2, none⟩ = some (.int .i64 en)) (by kernel_rfl) (⟨b0, b1, b2⟩) (fun hHeld => ?_)
 refine tk4Z 0 1 2 3 hHeld ?_
 refine wpAnyH_ready (rs := [4, 5]) (by kernel_rfl) (by simp) ?_
 refine AllReadyH.cons rfl (fun K hK => ?_) (AllReadyH.cons rfl (fun K hK => ?_) AllReadyH.nil)
 ·go_simp
  refine (HRF.out _).mono ?_
  rintro e w3 ⟨rfl, hw3⟩
  have HB1 := Hd (show Below W0.drew.heap.size W0.drew w3 from by rw [hw3]; exact alloc_ _ _)
  have HC1 := Hd (show w3.cell? ⟨W0.heap.size, 0, none⟩ = some (.int .i64 ((fn : Nat) : Int)) from by rw [hw3]; exact (Blk.new W0.drew 3 #[.int .i64 ((fn : Nat) : Int)]).cell 0)
  clear hw3
  try go_wp2_with fail
  refine hK.out _ _ ((on3Z hHeld HB1.out)) ?_
  clear hK K hHeld
  intro hHeld
  try simp only [Act.put, nmZ]
  refine rd1Z 5 (fun K hK => ?_)
  go_simp
  refine hK.out _ _ ((on3Z hHeld (alloc_ _ _))) ?_
  clear hK K hHeld
  intro hHeld
  try simp only [Act.put, nmZ]
  refine rd1Z 6 (fun K hK => ?_)
  go_simp
  refine (HGA.out _ (to_ (to_ HBW.out.drew HB1.out) (alloc_ _ _)) _ (cell_on HC1.out (alloc_ _ _)) _ (Blk.new _ _ _)).mono ?_
  rintro e w4 ⟨rb, base, rfl, ho, hlb, hbb, hbl⟩
  have HO := Hd ho
  have HLB := Hd hlb
  have HBB := Hd hbb
  have HBL := Hd hbl
  clear ho hlb hbb hbl
  try go_wp2_with fail
  refine hK.out _ _ ((on3Z hHeld HBL.out)) ?_
  clear hK K hHeld
  intro hHeld
  try simp only [Act.put, nmZ]
  refine rd1Z 7 (fun K hK => ?_)
  go_simp
  refine hK.out _ _ (hHeld) ?_
  clear hK K hHeld
  intro hHeld
  try simp only [Act.put, nmZ]
  refine wpAnyH_done (by kernel_rfl) ?_ _
  refine NoPanic.normal ?_
  go_wp2_with fail
  go_ret
  exact RowsA.lift ⟨_, _, rfl, HO.out, HLB.out, HBB.out, HBL.out⟩ (to_ (to_ HBW.out.drew HB1.out) (alloc_ _ _))
 ·go_simp
  refine hK.out _ _ ((on3Z hHeld (alloc_ _ _))) ?_
  clear hK K hHeld
  intro hHeld
  try simp only [Act.put, nmZ]
  refine rd1Z 4 (fun K hK => ?_)
  go_simp
  refine (HRF.out _).mono ?_
  rintro e w3 ⟨rfl, hw3⟩
  have HB0 := Hd (alloc_ W0.drew (.cells #[.int .i64 19, .int .i64 21] 3))
  have HB1 := Hd (show Below (W0.drew.alloc (.cells #[.int .i64 19, .int .i64 21] 3)).heap.size (W0.drew.alloc (.cells #[.int .i64 19, .int .i64 21] 3)) w3 from by rw [hw3]; exact alloc_ _ _)
  have HC1 := Hd (show w3.cell? ⟨(W0.drew.alloc (.cells #[.int .i64 19, .int .i64 21] 3)).heap.size, 0, none⟩ = some (.int .i64 ((fn : Nat) : Int)) from by rw [hw3]; exact (Blk.new _ 3 #[.int .i64 ((fn : Nat) : Int)]).cell 0)
  have HA1 := Hd (show Blk w3 W0.heap.size 3 #[.int .i64 19, .int .i64 21] from by rw [hw3]; exact (Blk.new W0.drew 3 #[.int .i64 19, .int .i64 21]).alloc _)
  clear hw3
  try go_wp2_with fail
  refine hK.out _ _ ((on3Z hHeld HB1.out)) ?_
  clear hK K hHeld
  intro hHeld
  try simp only [Act.put, nmZ]
  refine rd1Z 6 (fun K hK => ?_)
  go_simp
  refine (HGA.out _ (to_ (to_ HBW.out.drew HB0.out) HB1.out) _ (by first | exact HC1.out | simpa using HC1.out) _ HA1.out).mono ?_
  rintro e w4 ⟨rb, base, rfl, ho, hlb, hbb, hbl⟩
  have HO := Hd ho
  have HLB := Hd hlb
  have HBB := Hd hbb
  have HBL := Hd hbl
  clear ho hlb hbb hbl
  try go_wp2_with fail
  refine hK.out _ _ ((on3Z hHeld HBL.out)) ?_
  clear hK K hHeld
  intro hHeld
  try simp only [Act.put, nmZ]
  refine rd1Z 7 (fun K hK => ?_)
  go_simp
  refine hK.out _ _ (hHeld) ?_
  clear hK K hHeld
  intro hHeld
  try simp only [Act.put, nmZ]
  refine wpAnyH_done (by kernel_rfl) ?_ _
  refine NoPanic.normal ?_
  go_wp2_with fail
  go_ret
  exact RowsA.lift ⟨_, _, rfl, HO.out, HLB.out, HBB.out, HBL.out⟩ (to_ (to_ HBW.out.drew HB0.out) HB1.out)
set_option maxRecDepth 100000 in
set_option maxHeartbeats 8000000 in
theorem gatherV_any (w : World) (P : Pgm) (h : PgR w P) (As : Option Addr) (ms cm : Nat) (so : List Int) (hso : IL w As ms cm so) (hms : 0 < ms ∧ ms ≤ 1000) (gs os : Nat) (hAs : As = some ⟨gs, os, none⟩) :
  Calls Tryz.prog 88 #[pgV P, .func (.func 95) #[] #[], .slice As ms cm] w (RowsA w P.fn ((List.range P.fn).map fun a => By.tidyRow (gatP P so tlV a))) := by
 obtain ⟨iNf, hiN, hzN0, hzN1, hzN2⟩ := info_split infoInt
 have hfw := h.few.1
 have hmk := By.make_rows P.fn (by omega)
 have HGF := Hd (fun W (hb : Below w.heap.size w W) a (ha : a < P.fn) => gf_at (h.on hb).fr ha)
 have HGR := Hd (fun W (hb : Below w.heap.size w W) a (ha : a < P.fn) => (h.on hb).fns a ha)
 have HCO := Hd (fun W (hb : Below w.heap.size w W) x => contains_il W As ms cm so x (hso.on hb) hms.1 (by omega) gs os hAs)
 have HCL := Hd (fun W (hb : Below w.heap.size w W) (x : By.In5) r => show Calls Tryz.prog 95 #[inV x, .int .i64 r] W fun e w' => e = .returned (.tuple #[.int .i64 (tlV x r).1, .bool (tlV x r).2]) ∧ Below W.heap.size W w' from vias1_any x r W)
 have HTL := Hd (fun a (ha : a < P.fn) => show (gatP P so tlV a).length ≤ 1000000 from by
  have h1 := tgL_len (P.cs a) (gfAt P.fs a).refs (gfAt P.fs a).R.2.1 so tlV (gfAt P.fs a).F.code.2.1
  have h2 := ((h.fns a ha).few).1
  unfold gatP; omega)
 have HGP := Hd (show ∀ a, gatP P so tlV a = tgL (P.cs a) (gfAt P.fs a).refs (gfAt P.fs a).R.2.1 so tlV (gfAt P.fs a).F.code.2.1 from fun a => rfl)
 have HMAP := Hd (show ((List.range P.fn).map (gatP P so tlV)).map By.tidyRow = (List.range P.fn).map fun a => By.tidyRow (gatP P so tlV a) from by rw [List.map_map]; rfl)
 rw [← HMAP.out]
 obtain ⟨rw9, hrw⟩ : ∃ x, gatP P so tlV = x := ⟨_, rfl⟩
 rw [hrw] at HTL HGP ⊢
 generalize tlV = tl at *
 clear h hrw HMAP hso hms
 subst hAs
 obtain ⟨fA, fn, fc, fs, dA, dn, dc, ds, en, cs⟩ := P
 unfold pgV
 dsimp only at HGF HGR HTL HGP hfw hmk ⊢
 obtain ⟨b0, hb0⟩ : ∃ x : Nat, w.heap.size = x := ⟨_, rfl⟩
 obtain ⟨W0, hW0⟩ : ∃ W0, (w.alloc (.cells #[.slice fA fn fc, .slice dA dn dc, .int .i64 en] 29)).alloc (.cells (Array.replicate fn (.slice none 0 0)) 44) = W0 := ⟨_, rfl⟩
 have HB0 := Hd (show Below w.heap.size w W0 from by rw [← hW0]; exact to_ (alloc_ _ _) (alloc_ _ _))
 have HP0 := Hd (show Blk W0 w.heap.size 29 #[.slice fA fn fc, .slice dA dn dc, .int .i64 en] from by rw [← hW0]; exact (Blk.new _ _ _).alloc _)
 have HO0 := Hd (show By.OwnG W0 (w.heap.size + 1) (w.heap.size + 2) 44 3 (rwsA fn rw9 0) from by
  rw [rwsA_nil]
  refine By.OwnG.start W0 fn _ ?_
  have := Blk.new (w.alloc (.cells #[.slice fA fn fc, .slice dA dn dc, .int .i64 en] 29)) 44 (Array.replicate fn (.slice none 0 0))
  rw [World.size_alloc] at this
  rw [← hW0]; exact this)
 clear hb0
 unfold RowsA
 have c0 : W0.cell? ⟨w.heap.size, 0, none⟩ = some (.slice fA fn fc) := HP0.out.cell 0
 go_enter Tryz.func88, Tryz.ntmps88
 go_wp2_with fail
 clear hW0 c0
 go_loopw [21] (fun i9 wr => ∃ a : Nat, a ≤ fn ∧ i9 = .int .i64 (a : Int) ∧ Hid (By.OwnG wr (w.heap.size + 1) (w.heap.size + 2) 44 3 (rwsA fn rw9 a)) ∧ Hid (Below w.heap.size w wr) ∧ Hid (Blk wr w.heap.size 29 #[.slice fA fn fc, .slice dA dn dc, .int .i64 en])) (fun i9 _ => fn - (intOf i9).toNat)
 case atStart => exact ⟨0, Nat.zero_le _, rfl, HO0, HB0, HP0⟩
 case round =>
  obtain ⟨a, ha, rfl, HOG, HBW, HPB⟩ := hrel
  have c0 : wr.cell? ⟨w.heap.size, 0, none⟩ = some (.slice fA fn fc) := HPB.out.cell 0
  by_cases hlt : a < fn
  ·have haI : (a : Int) < (fn : Int) := by omega
   have ha0 : (0 : Int) ≤ (a : Int) := by omega
   have HLT := Hd hlt
   obtain ⟨ad, rfl, hz9, f0, hfc⟩ := HGF.out wr HBW.out a hlt
   have HGA := Hd (fun W (hb : Below w.heap.size w W) => HGR.out W hb a hlt)
   have HGP9 := Hd (HGP.out a)
   have HLEN := Hd (HTL.out a hlt)
   obtain ⟨g, hg⟩ : ∃ g, gfAt fs a = g := ⟨_, rfl⟩
   rw [hg] at hfc f0 HGA HGP9
   clear hg
   obtain ⟨c9, hc9⟩ : ∃ c, cs a = c := ⟨_, rfl⟩
   rw [hc9] at HGA HGP9
   clear hc9
   obtain ⟨file, item, nm, ⟨cl, ⟨kA, kn, kc⟩, pd, no, fr, tt, ⟨lA, ln, lc⟩, ⟨cA, cn, cc⟩, ⟨rA, rn, rc⟩⟩, ⟨qA, qn, qc⟩, refs⟩ := g
   have f1 := hfc 0 _ rfl
   have f2 := hfc 1 _ rfl
   have f3 := hfc 2 _ rfl
   have f4 := hfc 3 _ rfl
   have f5 := hfc 4 _ rfl
   have f6 := hfc 5 _ rfl
   have f7 := hfc 6 _ rfl
   have f8 := hfc 7 _ rfl
   have f9 := hfc 8 _ rfl
   have f10 := hfc 9 _ rfl
   have f11 := hfc 10 _ rfl
   have f12 := hfc 11 _ rfl
   unfold slV at f4 f9 f10 f11 f12
   dsimp only at HGP9 f0 f1 f2 f3 f4 f5 f6 f7 f8 f9 f10 f11 f12
   have hc80 : cn ≤ 80 := (HGA.out w (Below.refl _ _)).few.1
   clear hfc
   obtain ⟨wz, hwz⟩ : ∃ wz, wz = wr := ⟨_, rfl⟩
   subst hwz
   obtain ⟨FBK, hFB⟩ : ∃ x : Nat, wz.heap.size = x := ⟨_, rfl⟩
   have HFB0 := Hd (show Blk (wz.alloc (.cells #[.int .i64 (file : Int), .int .i64 (item : Int), .string nm, .int .i64 cl, .slice kA kn kc, .int .i64 pd, .bool no, .int .i64 fr, .int .i64 tt, .slice lA ln lc, .slice cA cn cc, .slice rA rn rc, .slice qA qn qc] 51)) FBK 51 #[.int .i64 (file : Int), .int .i64 (item : Int), .string nm, .int .i64 cl, .slice kA kn kc, .int .i64 pd, .bool no, .int .i64 fr, .int .i64 tt, .slice lA ln lc, .slice cA cn cc, .slice rA rn rc, .slice qA qn qc] from by rw [← hFB]; exact Blk.new _ _ _)
   have HFBN := Hd (show w.heap.size + 2 ≤ FBK from by have := HOG.out.lt; omega)
   have HHF := Hd hFB
   clear hFB
   go_wp2_with fail
   obtain ⟨wy, hwy⟩ : ∃ wy, wz.alloc (.cells #[.int .i64 (file : Int), .int .i64 (item : Int), .string nm, .int .i64 cl, .slice kA kn kc, .int .i64 pd, .bool no, .int .i64 fr, .int .i64 tt, .slice lA ln lc, .slice cA cn cc, .slice rA rn rc, .slice qA qn qc] 51) = wy := ⟨_, rfl⟩
   have HBY := Hd (show Below wz.heap.size wz wy from by rw [← hwy]; exact alloc_ _ _)
   rw [hwy] at HFB0
   rw [hwy, HHF.out]
   clear hwy c0 f0 f1 f2 f3 f4 f5 f6 f7 f8 f9 f10 f11 f12 hz9
   have HOY := Hd (show By.OwnG wy (w.heap.size + 1) (w.heap.size + 2) 44 3 ((rwsA fn rw9 a).set a (tgL c9 refs qn so tl 0)) from by
    have h1 := ownG_on HOG.out HBY.out
    have h2 : (rwsA fn rw9 a).set a (tgL c9 refs qn so tl 0) = rwsA fn rw9 a := by
     have h3 : By.rowOf (rwsA fn rw9 a) a = [] := by rw [rwsA_row HLT.out, if_neg (by omega)]
     have h4 : (rwsA fn rw9 a)[a]? = some [] := by
      unfold By.rowOf at h3
      rw [List.getD_eq_getElem?_getD, List.getElem?_eq_getElem (by rw [rwsA_len]; exact HLT.out)] at h3
      rw [List.getElem?_eq_getElem (by rw [rwsA_len]; exact HLT.out)]
      exact congrArg some h3
     exact List.ext_getElem? fun i => by
      rw [List.getElem?_set]
      by_cases h5 : a = i
      ·subst h5; rw [if_pos rfl, if_pos (by rw [rwsA_len]; exact HLT.out), h4]; rfl
      ·rw [if_neg h5]
    rw [h2]; exact h1)
   go_loopw [30] (fun i9 wr => ∃ k : Nat, k ≤ cn ∧ i9 = .int .i64 (k : Int) ∧ Hid (By.OwnG wr (w.heap.size + 1) (w.heap.size + 2) 44 3 ((rwsA fn rw9 a).set a (tgL c9 refs qn so tl k))) ∧ Hid (Below w.heap.size w wr) ∧ Hid (Blk wr w.heap.size 29 #[.slice (some ad) fn fc, .slice dA dn dc, .int .i64 en]) ∧ Hid (Blk wr FBK 51 #[.int .i64 (file : Int), .int .i64 (item : Int), .string nm, .int .i64 cl, .slice kA kn kc, .int .i64 pd, .bool no, .int .i64 fr, .int .i64 tt, .slice lA ln lc, .slice cA cn cc, .slice rA rn rc, .slice qA qn qc])) (fun i9 _ => cn - (intOf i9).toNat)
   case atStart => exact ⟨0, Nat.zero_le _, rfl, HOY, Hd (to_ HBW.out HBY.out), Hd (HPB.out.below HBY.out HPB.out.lt), HFB0⟩
   case round =>
    obtain ⟨k, hk, rfl, HOG, HBW, HPB, HFB⟩ := hrel
    by_cases hkl : k < cn
    ·have hkI : (k : Int) < (cn : Int) := by omega
     have hk0 : (0 : Int) ≤ (k : Int) := by omega
     have HKL := Hd hkl
     obtain ⟨cad, rfl, hz1, z0, z1, z2, z3, z4⟩ := in_at (HGA.out wr HBW.out).code hkl
     have HTS := Hd (tgL_succ c9 refs qn so tl k)
     have htl := tgL_len c9 refs qn so tl k
     have HTG := Hd (show tgO c9 refs qn so tl k = if so.contains (By.inAt c9 k).1 = true then (if (tl (By.inAt c9 k) (rfA refs qn k)).2 = true then [(tl (By.inAt c9 k) (rfA refs qn k)).1] else []) else [] from rfl)
     have HRA := Hd (fun W (hb : Below w.heap.size w W) => refAt_any W qA qn qc refs (HGA.out W hb).refs k)
     have HCL := Hd (fun W hb => HCL.out W hb (By.inAt c9 k))
     unfold inV at HCL
     obtain ⟨⟨op, ia, ib, ic, iN⟩, hx⟩ : ∃ x, By.inAt c9 k = x := ⟨_, rfl⟩
     rw [hx] at z0 z1 z2 z3 z4 HTG HCL
     dsimp only at z0 z1 z2 z3 z4 HTG HCL
     obtain ⟨rf9, hrf⟩ : ∃ x, rfA refs qn k = x := ⟨_, rfl⟩
     rw [hrf] at HTG HRA
     have HCL := Hd (fun W hb => HCL.out W hb rf9)
     obtain ⟨⟨tn, tb⟩, ht9⟩ : ∃ x, tl (op, ia, ib, ic, iN) rf9 = x := ⟨_, rfl⟩
     rw [ht9] at HTG HCL
     dsimp only at HTG HCL
     clear hx hrf ht9
     have HCT := Hd (fun W (hb : Below w.heap.size w W) => HCO.out W hb op)
     obtain ⟨bc, hbc⟩ : ∃ b, so.contains op = b := ⟨_, rfl⟩
     rw [hbc] at HTG HCT
     clear hbc
     obtain ⟨IBK, hIB⟩ : ∃ x : Nat, wr.heap.size = x := ⟨_, rfl⟩
     obtain ⟨wI, hwI⟩ : ∃ x, wr.alloc (.cells #[.int .i64 op, .int .i64 ia, .int .i64 ib, .int .i64 ic, .int .i64 iN] 53) = x := ⟨_, rfl⟩
     have hbI : Below wr.heap.size wr wI := by rw [← hwI]; exact alloc_ _ _
     have HIB := Hd (show Blk wI IBK 53 #[.int .i64 op, .int .i64 ia, .int .i64 ib, .int .i64 ic, .int .i64 iN] from by rw [← hwI, ← hIB]; exact Blk.new _ _ _)
     have HWI := Hd (to_ HBW.out hbI)
     have HBI := Hd hbI
     have HHI := Hd hIB
     have HFBI := Hd (HFB.out.below hbI HFB.out.lt)
     have HPBI := Hd (HPB.out.below hbI HPB.out.lt)
     have HOGI := Hd (ownG_on HOG.out hbI)
     have HEQ := Hd hwI
     clear hbI hIB hwI
     cases bc with
     | false =>
      have HR := Hd (show tgL c9 refs qn so tl (k + 1) = tgL c9 refs qn so tl k from by rw [HTS.out, HTG.out]; simp)
      go_wp2_with (go_at_call 110; rw [HEQ.out]; refine (HCT.out _ HWI.out).mono ?_; rintro e w2 ⟨rfl, rfl⟩)
      go_roundw
      case rel => exact ⟨k + 1, by have := HKL.out; omega, by go_num, Hd (by rw [HR.out]; exact HOGI.out), HWI, HPBI, HFBI⟩
      case measure => have := HKL.out; simp [intOf]; omega
     | true =>
      go_wp2_with (go_at_call 110; rw [HEQ.out]; refine (HCT.out _ HWI.out).mono ?_; rintro e w2 ⟨rfl, rfl⟩)
      rw [HHI.out]
      have i0 := HIB.out.cell 0
      have i1 := HIB.out.cell 1
      have i2 := HIB.out.cell 2
      have i3 := HIB.out.cell 3
      have i4 := HIB.out.cell 4
      have x12 := HFBI.out.cell 12
      refine wp_region_noPanic ?_
      refine wp_region_held_drew (S := fun W => W.cell? ⟨IBK, 0, none⟩ = some (.int .i64 op) ∧ W.cell? ⟨IBK, 1, none⟩ = some (.int .i64 ia) ∧ W.cell? ⟨IBK, 2, none⟩ = some (.int .i64 ib) ∧ W.cell? ⟨IBK, 3, none⟩ = some (.int .i64 ic) ∧ W.cell? ⟨IBK, 4, none⟩ = some (.int .i64 iN) ∧ W.cell? ⟨FBK, 12, none⟩ = some (.slice qA qn qc)) (by kernel_rfl) (⟨i0, i1, i2, i3, i4, x12⟩) (fun hHeld => ?_)
      refine tk5Z 0 1 2 3 4 hHeld ?_
      refine rd1Z 5 (fun K hK => ?_)
      go_simp
      refine (HRA.out _ HWI.out.drew).mono ?_
      rintro e w3 ⟨rfl, rfl⟩
      try go_wp2_with fail
      refine hK.out _ _ (hHeld) ?_
      clear hK K hHeld
      intro hHeld
      try simp only [Act.put, nmZ]
      refine rd1Z 6 (fun K hK => ?_)
      go_simp
      refine (HCL.out _ HWI.out.drew).mono ?_
      rintro e w3 ⟨rfl, b3⟩
      have HB3 := Hd b3
      clear b3
      try go_wp2_with fail
      refine hK.out _ _ ((on6Z hHeld HB3.out)) ?_
      clear hK K hHeld
      intro hHeld
      try simp only [Act.put, nmZ]
      refine tk5Z 7 8 9 10 11 hHeld ?_
      refine wpAnyH_done (by kernel_rfl) ?_ _
      refine NoPanic.normal ?_
      cases tb with
      | false =>
       have HB23 := Hd (to_ (Below.refl w2.heap.size w2).drew HB3.out)
       have HR := Hd (show tgL c9 refs qn so tl (k + 1) = tgL c9 refs qn so tl k from by rw [HTS.out, HTG.out]; simp)
       go_wp2_with fail
       go_roundw
       case rel => exact ⟨k + 1, by have := HKL.out; omega, by go_num, Hd (by rw [HR.out]; exact ownG_on HOGI.out HB23.out), Hd (to_ HWI.out HB23.out), Hd (HPBI.out.below HB23.out HPBI.out.lt), Hd (HFBI.out.below HB23.out HFBI.out.lt)⟩
       case measure => have := HKL.out; simp [intOf]; omega
      | true =>
       have HB23 := Hd (to_ (Below.refl w2.heap.size w2).drew HB3.out)
       have HNX := Hd (show tgL c9 refs qn so tl (k + 1) = tgL c9 refs qn so tl k ++ [tn] from by rw [HTS.out, HTG.out]; simp)
       obtain ⟨XL, hXL⟩ : ∃ x, tgL c9 refs qn so tl k = x := ⟨_, rfl⟩
       rw [hXL] at htl HNX
       have HO3 := ownG_on HOGI.out HB23.out
       rw [hXL] at HO3
       clear hXL HTG HTS
       have HB03 := Hd (to_ HWI.out HB23.out)
       have HFB3 := Hd (HFBI.out.below HB23.out HFBI.out.lt)
       have HPB3 := Hd (HPBI.out.below HB23.out HPBI.out.lt)
       obtain ⟨rv, hcell, hfr, hone, hrow, ⟨RA, RC, hrv⟩, hput⟩ := HO3.at_ (by omega) (a := a) (by rw [List.length_set, rwsA_len]; exact HLT.out)
       rw [set_row HLT.out] at hrow hrv
       have HP := Hd hput
       have hlt3 := HO3.lt
       have hownA := By.own_keep (w' := w3.alloc (.cells #[.int .i64 tn] 3)) hrow (fun k _ hk _ => Below.heap_alloc _ _ _ hk)
       have hnewA : (w3.alloc (.cells #[.int .i64 tn] 3)).cell? ⟨w3.heap.size, 0, none⟩ = some (.int .i64 tn) := by
        have := (Blk.new w3 3 #[.int .i64 tn]).cell 0
        exact this
       have hrbA : (w3.alloc (.cells #[.int .i64 tn] 3)).cell? ⟨w.heap.size + 1, a, none⟩ = some rv := by
        rw [World.cell?_alloc_lt _ _ _ (by show w.heap.size + 1 < w3.heap.size; omega)]; exact hcell
       have hfrA : (w3.alloc (.cells #[.int .i64 tn] 3)).frozen? ⟨w.heap.size + 1, a, none⟩ = false := by
        rw [World.frozen?_alloc_past _ _ _ (by show w.heap.size + 1 < w3.heap.size; omega)]; exact hfr
       have HRB := Hd (show some (w.heap.size + 1) ≠ rv.ownBlock from fun e => by have := (hrow.lt _ e.symm).1; omega)
       have HRP := Hd (show some w.heap.size ≠ rv.ownBlock from fun e => by have := (hrow.lt _ e.symm).1; omega)
       have HRF := Hd (own_neb hrow HFB3.out (by decide))
       have HBS := Hd (show ∀ r, rv.ownBlock = some r → w.heap.size + 2 ≤ r from fun r e => (hrow.lt r e).1)
       have HL1 : XL.length + 1 ≤ maxLen := by unfold maxLen; omega
       have HL2 : (XL.length + 1) * 8 ≤ 140737488355328 := by omega
       have HEnd := Hd (show ∀ (g' cap' : Nat) (w' : World), w'.ownsRow (w.heap.size + 2) 3 1 (.slice (some ⟨g', 0, none⟩) (XL.length + 1) cap') (XL.length + 1) (By.ints XL ++ [.int .i64 tn]) →
         (w3.alloc (.cells #[.int .i64 tn] 3)).grownBy w' rv.ownBlock →
         ((Value.slice (some ⟨g', 0, none⟩) (XL.length + 1) cap').ownBlock = rv.ownBlock ∨ (Value.slice (some ⟨g', 0, none⟩) (XL.length + 1) cap').ownBlock = some (w3.alloc (.cells #[.int .i64 tn] 3)).heap.size) →
         By.OwnG (w'.setCell ⟨w.heap.size + 1, a, none⟩ (.slice (some ⟨g', 0, none⟩) (XL.length + 1) cap')) (w.heap.size + 1) (w.heap.size + 2) 44 3 ((rwsA fn rw9 a).set a (XL ++ [tn])) ∧
         Below w.heap.size w (w'.setCell ⟨w.heap.size + 1, a, none⟩ (.slice (some ⟨g', 0, none⟩) (XL.length + 1) cap')) ∧
         Blk (w'.setCell ⟨w.heap.size + 1, a, none⟩ (.slice (some ⟨g', 0, none⟩) (XL.length + 1) cap')) w.heap.size 29 #[.slice (some ad) fn fc, .slice dA dn dc, .int .i64 en] ∧
         Blk (w'.setCell ⟨w.heap.size + 1, a, none⟩ (.slice (some ⟨g', 0, none⟩) (XL.length + 1) cap')) FBK 51 #[.int .i64 (file : Int), .int .i64 (item : Int), .string nm, .int .i64 cl, .slice kA kn kc, .int .i64 pd, .bool no, .int .i64 fr, .int .i64 tt, .slice lA ln lc, .slice (some cad) cn cc, .slice rA rn rc, .slice qA qn qc] from by
        intro g' cap' w' h2 h3 h4
        refine ⟨?_, ?_, ?_, ?_⟩
        ·have h5 := HP.out (.slice (some ⟨g', 0, none⟩) (XL.length + 1) cap') (XL ++ [tn]) w' rfl (by simpa [By.ints] using h2)
          (by
           rcases h4 with h4 | h4
           ·exact .inr (.inl h4)
           ·exact .inr (.inr ⟨_, h4, by simp⟩))
          (fun k hk hlt hne => (h3.block k (by simp; omega) (fun e => hne e.symm)).trans (Below.heap_alloc _ _ _ hlt))
         rwa [List.set_set] at h5
        ·refine (HB03.out.trans ?_).setCell (p := ⟨w.heap.size + 1, a, none⟩) (by show w.heap.size ≤ w.heap.size + 1; omega) _
         exact ((Below.refl w.heap.size w3).alloc (by have := HB03.out.size; omega) _).grown h3 (by simp; omega) fun r e => by have := HBS.out r e; omega
        ·have h6 := HPB3.out.alloc (.cells #[.int .i64 tn] 3)
         exact ((heap_setCell_other _ _ _ _ (by show w.heap.size ≠ w.heap.size + 1; omega)).trans (h3.block _ h6.lt HRP.out)).trans h6
        ·have h6 := HFB3.out.alloc (.cells #[.int .i64 tn] 3)
         exact ((heap_setCell_other _ _ _ _ (by show FBK ≠ w.heap.size + 1; have := HFBN.out; omega)).trans (h3.block _ h6.lt HRF.out)).trans h6)
       rw [← HNX.out] at HEnd
       subst hrv
       clear hput hrow hone HO3
       have HNEW := Hd (show ∀ j u, [Value.int .i64 tn][j]? = some u → (w3.alloc (.cells #[.int .i64 tn] 3)).cell? ((⟨w3.heap.size, 0, none⟩ : Addr).add j) = some u from fun j u hj => by
        rcases j with _ | j
        ·injection hj with hj; subst hj; exact hnewA
        ·cases hj)
       go_wp2_with (at_builtin; go_loud (refine wpList_append_own_at _ rfl _ _ 44 rfl (w.heap.size + 2) 3 iNf (.int .i64 0) 1 8 Tryz.underlying44 hiN hzN0 hzN1 hzN2 rfl (by omega) _ _ _ rfl hownA ⟨w3.heap.size, 0, none⟩ 1 1 [.int .i64 tn] rfl rfl HNEW.out (by simp [Value.oneCell']) HL1 HL2 (by simp; omega) ?_); intro v' w' h2 h3 _ h4; obtain ⟨g', cap', hv'⟩ := ownsRow_succ h2; subst hv'; have hrb' := h3.cell hrbA HRB.out; have hfr' : w'.frozen? ⟨w.heap.size + 1, a, none⟩ = false := (World.frozen?_of_block (h3.block (w.heap.size + 1) (World.block_lt_of_cell? _ _ hrbA) HRB.out)).trans hfrA; have h5 := HEnd.out _ _ _ h2 h3 h4; have H51 := Hd h5.1; have H52 := Hd h5.2.1; have H53 := Hd h5.2.2.1; have H54 := Hd h5.2.2.2; clear h2 h3 h4 h5 hownA hnewA hrbA hfrA hcell hfr)
       go_roundw
       case rel => exact ⟨k + 1, by have := HKL.out; omega, by go_num, H51, H52, H53, H54⟩
       case measure => have := HKL.out; simp [intOf]; omega
    ·obtain rfl : cn = k := by omega
     have HO9 := Hd (show By.OwnG wr (w.heap.size + 1) (w.heap.size + 2) 44 3 (rwsA fn rw9 (a + 1)) from by
      have h1 := HOG.out
      rw [← HGP9.out, rwsA_set HLT.out] at h1; exact h1)
     go_wp2_with fail
     go_roundw
     case rel => exact ⟨a + 1, by have := HLT.out; omega, by go_num, HO9, HBW, HPB⟩
     case measure => have := HLT.out; simp [intOf]; omega
  ·obtain rfl : fn = a := by omega
   have hct := By.ctidy_any wr (w.heap.size + 1) (w.heap.size + 2) (rwsA fn rw9 fn) HOG.out (by omega) (by rw [rwsA_len]; omega) (fun i => by
    by_cases hi : i < fn
    ·rw [rwsA_row hi, if_pos hi]; exact HTL.out i hi
    ·unfold By.rowOf
     rw [List.getD_eq_getElem?_getD, List.getElem?_eq_none (by rw [rwsA_len]; omega)]; simp)
   rw [rwsA_len, rwsA_all] at hct
   have HCT := Hd hct
   have HLW := Hd HOG.out.lt
   clear hct
   go_wp2_with (go_at_call 127; refine HCT.out.mono ?_; rintro e w2 ⟨rfl, hO2, hK2⟩; have HO2 := Hd hO2; have HK2 := Hd hK2; clear hO2 hK2)
   go_ret
   exact ⟨_, _, rfl, HO2.out, by omega, by omega, HBW.out.trans (HK2.out.below HBW.out.size (fun k hk => by omega))⟩
end Go.Proofs.YtdaimeaofgbfpaaGreat.Bo
