/-
 Pb2
-/
import Derived.Test.YtdaimeaofgbfpaaGreatZa2
import Derived.Test.YtdaimeaofgbfpaaGreatPa2
import Derived.Laws.EntriesVeiled
import Derived.Lib.Strings
import Derived.Sort.OwnSortedInts
import Derived.Lib.OwnBridge
import Derived.RangeFuncBox
import Derived.WalkSpells
import Derived.WalkLawsBesides
import Derived.Lib.LaidTab
import Derived.Laws.IdiomStrings
set_option linter.unusedSimpArgs false
set_option linter.unusedVariables false
namespace Go.Proofs.YtdaimeaofgbfpaaGreat.By
open Go.RowKit
open Mem Gm Rf
def refA : List Rl → Int → Option Rl
 | [], _ => none
 | r :: l, i => if r.1 = i then some r else refA l i
def inL (i : Int) (n : Nat) : Bool := decide (0 ≤ i ∧ i < (n : Int))
def sy0 : Sy := (⟨#[]⟩, false, 0, 0, 0)
def symA (rs : List Rl) (l : List Sy) (i : Int) : Option Sy :=
 match refA rs i with
 | none => none
 | some r => if inL r.2.1 l.length = true then some (syAt l r.2.1.toNat) else none
def symO (rs : List Rl) (l : List Sy) (i : Int) : Sy := (symA rs l i).getD sy0
def isOfV (so kd need : Int) : Bool :=
 if need = 0 then true else if need = 3 then decide (so = 2 ∧ kd = 0) else if need = 4 then decide (so = 2) && Si.clB kd else decide (so = 1)
def clsV (o c kd : Int) : Int := if o = 20 then c else if o = 18 then clV' kd else kd
where clV' (n : Int) : Int := Si.clV n
def slE (ks : List Int) (i k : Int) : Int := if inL i ks.length = true then (if el ks i.toNat = k then 0 else 8) else 9
def unE (i : Int) : Int := if i = 0 then 0 else 2
def caE (ks : List Int) (i : Int) : Nat → Int
 | 0 => 0
 | n + 1 => if caE ks i n = 0 then slE ks (wrap64 (i + n)) 0 else caE ks i n
def cdE (ks : List Int) (cl i : Int) : Int := if Si.parV cl = 0 ∧ Si.ansV cl = false then unE i else caE ks i (if Si.parV cl = 0 then 1 else (Si.parV cl).toNat)
def dfE (ks : List Int) (cl i : Int) : Int := if Si.parV cl = 0 then unE i else slE ks i 0
def anE (ks : List Int) (own i : Int) : Int := if Si.ansV own = false then unE i else slE ks i 0
def ltE (ks : List Int) (own cl : Int) (c : Nat) (i : Int) : Int :=
 if c = 119 ∨ c = 114 then slE ks i 0 else if c = 103 ∨ c = 102 then slE ks i (wrap64 (1 + cl)) else if c = 99 then cdE ks cl i else if c = 100 then dfE ks cl i else if c = 118 then anE ks own i else 0
def shl (o : Int) : List UInt8 := if 1 ≤ o ∧ o ≤ 24 then shs.getD o.toNat [] else []
def opc (y : In5) (i : Int) : Int := opdV y.2.1 y.2.2.1 y.2.2.2.1 y.2.2.2.2 i
def opE (ks : List Int) (own cl : Int) (y : In5) : Nat → Int
 | 0 => 0
 | n + 1 => if opE ks own cl y n = 0 then ltE ks own cl ((shl y.1).getD n 0).toNat (opc y n) else opE ks own cl y n
def veC (o cl : Int) : Int := if (o = 20 ∧ Si.isC cl = false) ∨ (o = 21 ∧ Si.latV cl = false) then 14 else 0
def veX (ks : List Int) (own : Int) (y : In5) (so kd : Int) : Int :=
 if isOfV so kd (ndV y.1) = false then 8
 else if veC y.1 (clsV y.1 y.2.2.2.1 kd) ≠ 0 then 14
 else opE ks own (clsV y.1 y.2.2.2.1 kd) y (shl y.1).length
def veI (x : Fn) (l : List Sy) (i : Int) : Int :=
 if inL i x.cs.length = false then 2
 else if (ndV (inAt x.cs i.toNat).1 ≠ 0 ∧ symA x.rs l i = none) ∨ ((refA x.rs i).isSome = true ∧ ndV (inAt x.cs i.toNat).1 = 0) then 11
 else veX x.ks x.k (inAt x.cs i.toNat) (symO x.rs l i).2.2.1 (symO x.rs l i).2.2.2.1
def veL (x : Fn) (l : List Sy) : Nat → Int × Int
 | 0 => (0, -1)
 | n + 1 => if (veL x l n).1 = 0 then (if veI x l n = 0 then (0, -1) else (veI x l n, (n : Int))) else veL x l n
theorem veL_fix {x : Fn} {l : List Sy} {k : Nat} (h : (veL x l k).1 ≠ 0) : ∀ n, k ≤ n → veL x l n = veL x l k
 | 0, hn => by obtain rfl : k = 0 := by omega
               rfl
 | n + 1, hn => by
  by_cases he : k = n + 1
  ·subst he; rfl
  ·have h1 := veL_fix h n (by omega)
   rw [veL, if_neg (by rw [h1]; exact h), h1]
def veS (x : Fn) (i : Int) : Int := match refA x.rs i with | none => -1 | some r => r.2.1
-- the document's
def dfits (need so kd : Int) : Bool := if need = 1 ∨ need = 2 ∨ need = 5 then decide (so = 1) else if need = 3 then decide (so = 2 ∧ kd = 0) else decide (so = 2) && Si.isC (wrap64 (kd - 1))
def drE (x : Fn) (l : List Sy) (i : Int) (need : Int) : Int :=
 if decide (0 < need) ≠ (refA x.rs i).isSome then 11
 else if need = 0 then 0
 else if inL (veS x i) l.length = false then 11
 else if dfits need (syAt l (veS x i).toNat).2.2.1 (syAt l (veS x i).toNat).2.2.2.1 = false then 8 else 0
def dSy (x : Fn) (l : List Sy) (i : Int) (need : Int) : Sy := if drE x l i need = 0 then (if need = 0 then sy0 else syAt l (veS x i).toNat) else sy0
def dclV (o c kd : Int) : Int := if o = 18 then wrap64 (kd - 1) else if o = 19 ∨ o = 17 ∨ o = 21 then kd else c
def dvI (x : Fn) (l : List Sy) (i : Int) : Int :=
 if inL i x.cs.length = false then 2
 else if drE x l i (ndV (inAt x.cs i.toNat).1) ≠ 0 then drE x l i (ndV (inAt x.cs i.toNat).1)
 else if ((inAt x.cs i.toNat).1 = 20 ∧ Si.isC (inAt x.cs i.toNat).2.2.2.1 = false) ∨ ((inAt x.cs i.toNat).1 = 21 ∧ Si.latV (dSy x l i (ndV (inAt x.cs i.toNat).1)).2.2.2.1 = false) then 14
 else opE x.ks x.k (dclV (inAt x.cs i.toNat).1 (inAt x.cs i.toNat).2.2.2.1 (dSy x l i (ndV (inAt x.cs i.toNat).1)).2.2.2.1) (inAt x.cs i.toNat) (shl (inAt x.cs i.toNat).1).length
theorem nd_cases (o : Int) : ndV o = 0 ∨ ndV o = 1 ∨ ndV o = 2 ∨ ndV o = 3 ∨ ndV o = 4 ∨ ndV o = 5 := by
 unfold ndV; repeat' split
 all_goals simp
theorem wr_pred (k : Int) (h1 : -9223372036854775808 ≤ k) (h2 : k ≤ 9223372036854775807) : Si.isC (wrap64 (k - 1)) = Si.clB k := by
 by_cases h : k = -9223372036854775808
 ·subst h; decide +kernel
 ·rw [wrap_in _ ⟨by omega, by omega⟩]
  unfold Si.isC Si.clB
  exact decide_eq_decide.2 (by omega)
theorem fits_is (need so kd : Int) (hn : need = 1 ∨ need = 2 ∨ need = 3 ∨ need = 4 ∨ need = 5) (h1 : -9223372036854775808 ≤ kd) (h2 : kd ≤ 9223372036854775807) : dfits need so kd = isOfV so kd need := by
 unfold dfits isOfV
 rcases hn with rfl | rfl | rfl | rfl | rfl <;> simp [wr_pred kd h1 h2]
theorem no_class9 : ∀ o : Fin 25, ∀ k : Fin 4, (o.1 = 17 ∨ o.1 = 18 ∨ o.1 = 19 ∨ o.1 = 20 ∨ o.1 = 21) ∨ (((shs.getD o.1 []).getD k.1 0).toNat ≠ 103 ∧ ((shs.getD o.1 []).getD k.1 0).toNat ≠ 102 ∧ ((shs.getD o.1 []).getD k.1 0).toNat ≠ 99 ∧ ((shs.getD o.1 []).getD k.1 0).toNat ≠ 100) := by decide +kernel
theorem no_class (o : Nat) (ho : o < 25) (h1 : o ≠ 17) (h2 : o ≠ 18) (h3 : o ≠ 19) (h4 : o ≠ 20) (h5 : o ≠ 21) (k : Nat) (hk : k < 4) : ((shs.getD o []).getD k 0).toNat ≠ 103 ∧ ((shs.getD o []).getD k 0).toNat ≠ 102 ∧ ((shs.getD o []).getD k 0).toNat ≠ 99 ∧ ((shs.getD o []).getD k 0).toNat ≠ 100 := by
 rcases no_class9 ⟨o, ho⟩ ⟨k, hk⟩ with h | h
 ·simp [h1, h2, h3, h4, h5] at h
 ·exact h
theorem sh_len : ∀ o : Nat, o < 25 → (shs.getD o []).length ≤ 4 := by decide +kernel
theorem shl_len (o : Int) : (shl o).length ≤ 4 := by
 unfold shl
 split
 ·exact sh_len o.toNat (by omega)
 ·simp
theorem opE_class (ks : List Int) (own cl cl' : Int) (y : In5) (h : ∀ k, k < (shl y.1).length → ((shl y.1).getD k 0).toNat ≠ 103 ∧ ((shl y.1).getD k 0).toNat ≠ 102 ∧ ((shl y.1).getD k 0).toNat ≠ 99 ∧ ((shl y.1).getD k 0).toNat ≠ 100) : ∀ n, n ≤ (shl y.1).length → opE ks own cl y n = opE ks own cl' y n
 | 0, _ => rfl
 | n + 1, hn => by
  have ih := opE_class ks own cl cl' y h n (by omega)
  obtain ⟨h1, h2, h3, h4⟩ := h n (by omega)
  rw [opE, opE, ih]
  unfold ltE
  simp only [h1, h2, h3, h4, if_false, or_false]
theorem ve_alike (x : Fn) (l : List Sy) (i : Int) (hb : ∀ k, -9223372036854775808 ≤ (syAt l k).2.2.2.1 ∧ (syAt l k).2.2.2.1 ≤ 9223372036854775807) : dvI x l i = veI x l i := by
 unfold dvI veI
 by_cases h0 : inL i x.cs.length = false
 ·rw [if_pos h0, if_pos h0]
 rw [if_neg h0, if_neg h0]
 generalize inAt x.cs i.toNat = y
 have hsm : ∀ r, refA x.rs i = some r → veS x i = r.2.1 := fun r h => by unfold veS; rw [h]
 cases hr : refA x.rs i with
 | none =>
  have hsy : symA x.rs l i = none := by unfold symA; rw [hr]
  by_cases hn : ndV y.1 = 0
  ·have hd : drE x l i (ndV y.1) = 0 := by unfold drE; rw [hn, hr]; rfl
   have hs : dSy x l i (ndV y.1) = sy0 := by unfold dSy; rw [hd, hn]; rfl
   have ho : symO x.rs l i = sy0 := by unfold symO; rw [hsy]; rfl
   rw [hd, hs, ho, if_neg (show ¬ (0 : Int) ≠ 0 by decide), if_neg (show ¬ ((ndV y.1 ≠ 0 ∧ symA x.rs l i = none) ∨ ((none : Option Rl).isSome = true ∧ ndV y.1 = 0)) from by simp [hn])]
   unfold veX
   rw [hn, if_neg (show ¬ isOfV sy0.2.2.1 sy0.2.2.2.1 0 = false by decide)]
   have hne : y.1 ≠ 17 ∧ y.1 ≠ 18 ∧ y.1 ≠ 19 ∧ y.1 ≠ 21 := by
    refine ⟨?_, ?_, ?_, ?_⟩ <;> (intro e; rw [e] at hn; revert hn; decide)
   by_cases h20 : y.1 = 20
   ·have hc1 : clsV y.1 y.2.2.2.1 sy0.2.2.2.1 = y.2.2.2.1 := by unfold clsV; rw [if_pos h20]
    have hc2 : dclV y.1 y.2.2.2.1 sy0.2.2.2.1 = y.2.2.2.1 := by unfold dclV; rw [h20]; simp
    rw [hc1, hc2]
    unfold veC
    rw [h20]
    cases hcc : Si.isC y.2.2.2.1
    ·rw [if_pos (by simp), if_pos (by simp)]
    ·rw [if_neg (by simp), if_neg (by simp)]
   ·have hc2 : dclV y.1 y.2.2.2.1 sy0.2.2.2.1 = y.2.2.2.1 := by unfold dclV; rw [if_neg hne.2.1, if_neg (by omega)]
    rw [hc2, if_neg (show ¬ ((y.1 = 20 ∧ Si.isC y.2.2.2.1 = false) ∨ (y.1 = 21 ∧ Si.latV sy0.2.2.2.1 = false)) from by simp [h20, hne.2.2.2]), if_neg (show ¬ veC y.1 (clsV y.1 y.2.2.2.1 sy0.2.2.2.1) ≠ 0 from by unfold veC; simp [h20, hne.2.2.2])]
    refine opE_class _ _ _ _ _ (fun k hk => ?_) _ (Nat.le_refl _)
    unfold shl at hk ⊢
    by_cases ho : 1 ≤ y.1 ∧ y.1 ≤ 24
    ·rw [if_pos ho] at hk ⊢
     exact no_class y.1.toNat (by omega) (by omega) (by omega) (by omega) (by omega) (by omega) k (by have := sh_len y.1.toNat (by omega); omega)
    ·rw [if_neg ho] at hk; simp at hk
  ·have hd : drE x l i (ndV y.1) = 11 := by
    unfold drE
    have hp : 0 < ndV y.1 := by have := nd_cases y.1; omega
    rw [hr, if_pos (by simp [hp])]
   rw [hd, if_pos (show (11 : Int) ≠ 0 by decide), if_pos (show (ndV y.1 ≠ 0 ∧ symA x.rs l i = none) ∨ ((none : Option Rl).isSome = true ∧ ndV y.1 = 0) from Or.inl ⟨hn, hsy⟩)]
 | some r =>
  by_cases hn : ndV y.1 = 0
  ·have hd : drE x l i (ndV y.1) = 11 := by unfold drE; rw [hn, hr]; rfl
   rw [hd, if_pos (show (11 : Int) ≠ 0 by decide), if_pos (show (ndV y.1 ≠ 0 ∧ symA x.rs l i = none) ∨ ((some r).isSome = true ∧ ndV y.1 = 0) from Or.inr ⟨rfl, hn⟩)]
  ·have hp : 0 < ndV y.1 := by have := nd_cases y.1; omega
   have hv := hsm r hr
   by_cases hin : inL r.2.1 l.length = true
   ·have hsy : symA x.rs l i = some (syAt l r.2.1.toNat) := by unfold symA; rw [hr]; dsimp only; rw [if_pos hin]
    have ho : symO x.rs l i = syAt l r.2.1.toNat := by unfold symO; rw [hsy]; rfl
    have hd : drE x l i (ndV y.1) = if isOfV (syAt l r.2.1.toNat).2.2.1 (syAt l r.2.1.toNat).2.2.2.1 (ndV y.1) = false then 8 else 0 := by
     unfold drE
     rw [hr, if_neg (by simp [hp]), if_neg hn, hv, if_neg (by rw [hin]; decide), fits_is _ _ _ (by have := nd_cases y.1; omega) (hb _).1 (hb _).2]
    rw [ho, if_neg (show ¬ ((ndV y.1 ≠ 0 ∧ symA x.rs l i = none) ∨ ((some r).isSome = true ∧ ndV y.1 = 0)) from by rw [hsy]; simp [hn])]
    generalize hz : syAt l r.2.1.toNat = s at hd
    unfold veX
    by_cases hf : isOfV s.2.2.1 s.2.2.2.1 (ndV y.1) = false
    ·rw [hd, if_pos hf, if_pos (show (8 : Int) ≠ 0 by decide), if_pos hf]
    ·rw [if_neg hf] at hd
     have hs : dSy x l i (ndV y.1) = s := by unfold dSy; rw [hd, if_pos rfl, if_neg hn, hv, hz]
     rw [hd, hs, if_neg (show ¬ (0 : Int) ≠ 0 by decide), if_neg hf]
     have hop : y.1 = 15 ∨ y.1 = 16 ∨ y.1 = 17 ∨ y.1 = 18 ∨ y.1 = 19 ∨ y.1 = 21 := by
      unfold ndV at hn
      repeat' split at hn
      all_goals omega
     have h20 : y.1 ≠ 20 := by omega
     by_cases h18 : y.1 = 18
     ·have hb9 := hb r.2.1.toNat
      rw [hz] at hb9
      have hf' : isOfV s.2.2.1 s.2.2.2.1 4 = true := by
       have : ndV y.1 = 4 := by rw [h18]; rfl
       rw [this] at hf; simpa using hf
      have hcb : Si.clB s.2.2.2.1 = true := by
       unfold isOfV at hf'; simp at hf'; exact hf'.2
      have hcv : wrap64 (s.2.2.2.1 - 1) = Si.clV s.2.2.2.1 := by
       unfold Si.clB at hcb
       have := of_decide_eq_true hcb
       rw [wrap_in _ ⟨by omega, by omega⟩]
       unfold Si.clV
       rw [if_pos this]
      have hc1 : clsV y.1 y.2.2.2.1 s.2.2.2.1 = Si.clV s.2.2.2.1 := by unfold clsV clsV.clV'; rw [if_neg h20, if_pos h18]
      have hc2 : dclV y.1 y.2.2.2.1 s.2.2.2.1 = Si.clV s.2.2.2.1 := by unfold dclV; rw [if_pos h18, hcv]
      rw [hc1, hc2]
      unfold veC
      rw [h18]
      simp
     ·have hc1 : clsV y.1 y.2.2.2.1 s.2.2.2.1 = s.2.2.2.1 := by unfold clsV; rw [if_neg h20, if_neg h18]
      rw [hc1]
      by_cases hcl : y.1 = 19 ∨ y.1 = 17 ∨ y.1 = 21
      ·have hc2 : dclV y.1 y.2.2.2.1 s.2.2.2.1 = s.2.2.2.1 := by unfold dclV; rw [if_neg h18, if_pos hcl]
       rw [hc2]
       unfold veC
       by_cases h21 : y.1 = 21
       ·rw [h21]; cases hlv : Si.latV s.2.2.2.1 <;> simp
       ·simp [h20, h21]
      ·rw [if_neg (by omega), if_neg (by unfold veC; rw [if_neg (by omega)]; decide)]
       refine opE_class _ _ _ _ _ (fun k hk => ?_) _ (Nat.le_refl _)
       unfold shl at hk ⊢
       by_cases ho : 1 ≤ y.1 ∧ y.1 ≤ 24
       ·rw [if_pos ho] at hk ⊢
        exact no_class y.1.toNat (by omega) (by omega) (by omega) (by omega) (by omega) (by omega) k (by have := sh_len y.1.toNat (by omega); omega)
       ·rw [if_neg ho] at hk; simp at hk
   ·have hsy : symA x.rs l i = none := by unfold symA; rw [hr]; dsimp only; rw [if_neg hin]
    have hd : drE x l i (ndV y.1) = 11 := by
     unfold drE
     rw [hr, if_neg (by simp [hp]), if_neg hn, hv, if_pos (by simpa using hin)]
    rw [hd, if_pos (show (11 : Int) ≠ 0 by decide), if_pos (show (ndV y.1 ≠ 0 ∧ symA x.rs l i = none) ∨ ((some r).isSome = true ∧ ndV y.1 = 0) from Or.inl ⟨hn, hsy⟩)]
theorem par_in (n : Int) : 0 ≤ Si.parV n ∧ Si.parV n ≤ 3 := by unfold Si.parV; split <;> omega
theorem caE_fix {ks : List Int} {i : Int} {k : Nat} (h : caE ks i k ≠ 0) : ∀ n, k ≤ n → caE ks i n = caE ks i k
 | 0, hn => by obtain rfl : k = 0 := by omega
               rfl
 | n + 1, hn => by
  by_cases he : k = n + 1
  ·subst he; rfl
  ·have h1 := caE_fix h n (by omega)
   rw [caE, if_neg (by rw [h1]; exact h), h1]
theorem blk5 {w : World} {g : Nat} {t : TypeId} {x0 x1 x2 x3 x4 : Value} (h : Blk w g t #[x0, x1, x2, x3, x4]) : w.cell? ⟨g, 0, none⟩ = some x0 ∧ w.cell? ⟨g, 1, none⟩ = some x1 ∧ w.cell? ⟨g, 2, none⟩ = some x2 ∧ w.cell? ⟨g, 3, none⟩ = some x3 ∧ w.cell? ⟨g, 4, none⟩ = some x4 :=
 ⟨h.cell 0, h.cell 1, h.cell 2, h.cell 3, h.cell 4⟩
theorem shV_list (o : Int) : (shV o).data.toList = shl o := by
 unfold shV shl
 split
 ·rfl
 ·rfl
theorem opE_fix {ks : List Int} {own cl : Int} {y : In5} {k : Nat} (h : opE ks own cl y k ≠ 0) : ∀ n, k ≤ n → opE ks own cl y n = opE ks own cl y k
 | 0, hn => by obtain rfl : k = 0 := by omega
               rfl
 | n + 1, hn => by
  by_cases he : k = n + 1
  ·subst he; rfl
  ·have h1 := opE_fix h n (by omega)
   rw [opE, if_neg (by rw [h1]; exact h), h1]
end Go.Proofs.YtdaimeaofgbfpaaGreat.By
namespace Go.Proofs.YtdaimeaofgbfpaaGreat.By
open Go.RowKit
open Mem Gm Rf
attribute [local go_sem] Oper.semAt_some
theorem infoI : (Tryz.prog.info? 3).map (fun i => (i.zero, i.size, i.bytes)) = some (some (.int .i64 0), 1, 8) := by kernel_rfl
theorem infoR : (Tryz.prog.info? 44).map (fun i => (i.zero, i.size, i.bytes)) = some (some (.slice none 0 0), 1, 24) := by kernel_rfl
end Go.Proofs.YtdaimeaofgbfpaaGreat.By
namespace Go.Proofs.YtdaimeaofgbfpaaGreat.By
open Go.RowKit
theorem rname_free (n : Int) (w : World) :
  Calls Tryz.prog 162 #[.int .i64 n] w fun e w' => e = .returned (.string (nmV n)) ∧ Below w.heap.size w w' := by
 have HN := Hd rnames_any
 have hb : (decide (n < 1) = true ∧ nmV n = ⟨#[]⟩) ∨ (decide (n < 1) = false ∧ decide (28 < n) = true ∧ nmV n = ⟨#[]⟩) ∨ (0 ≤ n - 1 ∧ n - 1 < 28 ∧ nmV n = nmB n.toNat) := by
  unfold nmV
  by_cases h1 : n < 1
  ·left; exact ⟨by simpa using h1, by rw [if_neg (by omega)]⟩
  ·by_cases h2 : 28 < n
   ·right; left; exact ⟨by simpa using h1, by simpa using h2, by rw [if_neg (by omega)]⟩
   ·right; right; exact ⟨by omega, by omega, by rw [if_pos (by omega)]⟩
 rcases hb with ⟨h1, h2⟩ | ⟨h1, h3, h2⟩ | ⟨h1, h3, h2⟩
 all_goals rw [h2]
 all_goals clear h2
 rotate_left
 rotate_left
 focus
  have hd : decide (n < 1) = false := by simp; omega
  have hd2 : decide (28 < n) = false := by simp; omega
  have hc : (w.alloc (.cells nmA 9)).cell? ⟨w.heap.size, n.toNat - 1, none⟩ = some (.string (nmB n.toNat)) := by
   rw [cell_of_row _ w.heap.size _ nmA 9 (0, 0) (heap_alloc_new w _), nmA_at _ (by omega)]
   congr 3
   omega
 rotate_left
 all_goals
  go_enter Tryz.func162, Tryz.ntmps162
  go_wp2_with (go_at_call 189; refine (HN.out _).mono ?_; rintro e w' ⟨rfl, rfl⟩)
  all_goals go_ret
  all_goals exact ⟨rfl, (Below.refl _ _).alloc (Nat.le_refl _) _⟩
set_option maxHeartbeats 4000000 in
theorem rends_free (n : Int) (w : World) :
  Calls Tryz.prog 215 #[.int .i64 n] w fun e w' => e = .returned (.bool (enV n)) ∧ Below w.heap.size w w' := by
 rcases all28 n with h | h | rfl | rfl | rfl | rfl | rfl | rfl | rfl | rfl | rfl | rfl | rfl | rfl | rfl | rfl | rfl | rfl | rfl | rfl | rfl | rfl | rfl | rfl | rfl | rfl | rfl | rfl | rfl | rfl
 ·have hx : nmV n = ⟨#[]⟩ ∧ enV n = false := by
   unfold nmV enV
   exact ⟨by rw [if_neg (by omega)], decide_eq_false (by omega)⟩
  rw [hx.2]
  have HN := Hd (rname_free n)
  rw [hx.1] at HN
  clear hx
  go_enter Tryz.func215, Tryz.ntmps215
  go_wp2_with fail
  refine (HN.out _).mono ?_
  rintro e w1 ⟨rfl, hb1⟩
  go_wp2_with fail
  refine (HN.out _).mono ?_
  rintro e w2 ⟨rfl, hb2⟩
  go_wp2_with fail
  refine (HN.out _).mono ?_
  rintro e w3 ⟨rfl, hb3⟩
  go_wp2_with fail
  all_goals go_ret
  all_goals exact ⟨rfl, (hb1.trans (hb2.mono hb1.size)).trans (hb3.mono (Nat.le_trans hb1.size hb2.size))⟩
 ·have hx : nmV n = ⟨#[]⟩ ∧ enV n = false := by
   unfold nmV enV
   exact ⟨by rw [if_neg (by omega)], decide_eq_false (by omega)⟩
  rw [hx.2]
  have HN := Hd (rname_free n)
  rw [hx.1] at HN
  clear hx
  go_enter Tryz.func215, Tryz.ntmps215
  go_wp2_with fail
  refine (HN.out _).mono ?_
  rintro e w1 ⟨rfl, hb1⟩
  go_wp2_with fail
  refine (HN.out _).mono ?_
  rintro e w2 ⟨rfl, hb2⟩
  go_wp2_with fail
  refine (HN.out _).mono ?_
  rintro e w3 ⟨rfl, hb3⟩
  go_wp2_with fail
  all_goals go_ret
  all_goals exact ⟨rfl, (hb1.trans (hb2.mono hb1.size)).trans (hb3.mono (Nat.le_trans hb1.size hb2.size))⟩
 ·have hx : nmV 1 = ⟨#[110, 111, 112]⟩ := rfl
  have HN := Hd (rname_free 1)
  rw [hx] at HN
  clear hx
  go_enter Tryz.func215, Tryz.ntmps215
  go_wp2_with fail
  refine (HN.out _).mono ?_
  rintro e w1 ⟨rfl, hb1⟩
  go_wp2_with fail
  refine (HN.out _).mono ?_
  rintro e w2 ⟨rfl, hb2⟩
  go_wp2_with fail
  refine (HN.out _).mono ?_
  rintro e w3 ⟨rfl, hb3⟩
  go_wp2_with fail
  all_goals go_ret
  all_goals exact ⟨rfl, (hb1.trans (hb2.mono hb1.size)).trans (hb3.mono (Nat.le_trans hb1.size hb2.size))⟩
 ·have hx : nmV 2 = ⟨#[115, 101, 116]⟩ := rfl
  have HN := Hd (rname_free 2)
  rw [hx] at HN
  clear hx
  go_enter Tryz.func215, Tryz.ntmps215
  go_wp2_with fail
  refine (HN.out _).mono ?_
  rintro e w1 ⟨rfl, hb1⟩
  go_wp2_with fail
  refine (HN.out _).mono ?_
  rintro e w2 ⟨rfl, hb2⟩
  go_wp2_with fail
  refine (HN.out _).mono ?_
  rintro e w3 ⟨rfl, hb3⟩
  go_wp2_with fail
  all_goals go_ret
  all_goals exact ⟨rfl, (hb1.trans (hb2.mono hb1.size)).trans (hb3.mono (Nat.le_trans hb1.size hb2.size))⟩
 ·have hx : nmV 3 = ⟨#[109, 111, 118, 101]⟩ := rfl
  have HN := Hd (rname_free 3)
  rw [hx] at HN
  clear hx
  go_enter Tryz.func215, Tryz.ntmps215
  go_wp2_with fail
  refine (HN.out _).mono ?_
  rintro e w1 ⟨rfl, hb1⟩
  go_wp2_with fail
  refine (HN.out _).mono ?_
  rintro e w2 ⟨rfl, hb2⟩
  go_wp2_with fail
  refine (HN.out _).mono ?_
  rintro e w3 ⟨rfl, hb3⟩
  go_wp2_with fail
  all_goals go_ret
  all_goals exact ⟨rfl, (hb1.trans (hb2.mono hb1.size)).trans (hb3.mono (Nat.le_trans hb1.size hb2.size))⟩
 ·have hx : nmV 4 = ⟨#[97, 100, 100]⟩ := rfl
  have HN := Hd (rname_free 4)
  rw [hx] at HN
  clear hx
  go_enter Tryz.func215, Tryz.ntmps215
  go_wp2_with fail
  refine (HN.out _).mono ?_
  rintro e w1 ⟨rfl, hb1⟩
  go_wp2_with fail
  refine (HN.out _).mono ?_
  rintro e w2 ⟨rfl, hb2⟩
  go_wp2_with fail
  refine (HN.out _).mono ?_
  rintro e w3 ⟨rfl, hb3⟩
  go_wp2_with fail
  all_goals go_ret
  all_goals exact ⟨rfl, (hb1.trans (hb2.mono hb1.size)).trans (hb3.mono (Nat.le_trans hb1.size hb2.size))⟩
 ·have hx : nmV 5 = ⟨#[115, 117, 98]⟩ := rfl
  have HN := Hd (rname_free 5)
  rw [hx] at HN
  clear hx
  go_enter Tryz.func215, Tryz.ntmps215
  go_wp2_with fail
  refine (HN.out _).mono ?_
  rintro e w1 ⟨rfl, hb1⟩
  go_wp2_with fail
  refine (HN.out _).mono ?_
  rintro e w2 ⟨rfl, hb2⟩
  go_wp2_with fail
  refine (HN.out _).mono ?_
  rintro e w3 ⟨rfl, hb3⟩
  go_wp2_with fail
  all_goals go_ret
  all_goals exact ⟨rfl, (hb1.trans (hb2.mono hb1.size)).trans (hb3.mono (Nat.le_trans hb1.size hb2.size))⟩
 ·have hx : nmV 6 = ⟨#[109, 117, 108]⟩ := rfl
  have HN := Hd (rname_free 6)
  rw [hx] at HN
  clear hx
  go_enter Tryz.func215, Tryz.ntmps215
  go_wp2_with fail
  refine (HN.out _).mono ?_
  rintro e w1 ⟨rfl, hb1⟩
  go_wp2_with fail
  refine (HN.out _).mono ?_
  rintro e w2 ⟨rfl, hb2⟩
  go_wp2_with fail
  refine (HN.out _).mono ?_
  rintro e w3 ⟨rfl, hb3⟩
  go_wp2_with fail
  all_goals go_ret
  all_goals exact ⟨rfl, (hb1.trans (hb2.mono hb1.size)).trans (hb3.mono (Nat.le_trans hb1.size hb2.size))⟩
 ·have hx : nmV 7 = ⟨#[100, 105, 118]⟩ := rfl
  have HN := Hd (rname_free 7)
  rw [hx] at HN
  clear hx
  go_enter Tryz.func215, Tryz.ntmps215
  go_wp2_with fail
  refine (HN.out _).mono ?_
  rintro e w1 ⟨rfl, hb1⟩
  go_wp2_with fail
  refine (HN.out _).mono ?_
  rintro e w2 ⟨rfl, hb2⟩
  go_wp2_with fail
  refine (HN.out _).mono ?_
  rintro e w3 ⟨rfl, hb3⟩
  go_wp2_with fail
  all_goals go_ret
  all_goals exact ⟨rfl, (hb1.trans (hb2.mono hb1.size)).trans (hb3.mono (Nat.le_trans hb1.size hb2.size))⟩
 ·have hx : nmV 8 = ⟨#[109, 111, 100]⟩ := rfl
  have HN := Hd (rname_free 8)
  rw [hx] at HN
  clear hx
  go_enter Tryz.func215, Tryz.ntmps215
  go_wp2_with fail
  refine (HN.out _).mono ?_
  rintro e w1 ⟨rfl, hb1⟩
  go_wp2_with fail
  refine (HN.out _).mono ?_
  rintro e w2 ⟨rfl, hb2⟩
  go_wp2_with fail
  refine (HN.out _).mono ?_
  rintro e w3 ⟨rfl, hb3⟩
  go_wp2_with fail
  all_goals go_ret
  all_goals exact ⟨rfl, (hb1.trans (hb2.mono hb1.size)).trans (hb3.mono (Nat.le_trans hb1.size hb2.size))⟩
 ·have hx : nmV 9 = ⟨#[108, 101, 115, 115]⟩ := rfl
  have HN := Hd (rname_free 9)
  rw [hx] at HN
  clear hx
  go_enter Tryz.func215, Tryz.ntmps215
  go_wp2_with fail
  refine (HN.out _).mono ?_
  rintro e w1 ⟨rfl, hb1⟩
  go_wp2_with fail
  refine (HN.out _).mono ?_
  rintro e w2 ⟨rfl, hb2⟩
  go_wp2_with fail
  refine (HN.out _).mono ?_
  rintro e w3 ⟨rfl, hb3⟩
  go_wp2_with fail
  all_goals go_ret
  all_goals exact ⟨rfl, (hb1.trans (hb2.mono hb1.size)).trans (hb3.mono (Nat.le_trans hb1.size hb2.size))⟩
 ·have hx : nmV 10 = ⟨#[115, 97, 109, 101]⟩ := rfl
  have HN := Hd (rname_free 10)
  rw [hx] at HN
  clear hx
  go_enter Tryz.func215, Tryz.ntmps215
  go_wp2_with fail
  refine (HN.out _).mono ?_
  rintro e w1 ⟨rfl, hb1⟩
  go_wp2_with fail
  refine (HN.out _).mono ?_
  rintro e w2 ⟨rfl, hb2⟩
  go_wp2_with fail
  refine (HN.out _).mono ?_
  rintro e w3 ⟨rfl, hb3⟩
  go_wp2_with fail
  all_goals go_ret
  all_goals exact ⟨rfl, (hb1.trans (hb2.mono hb1.size)).trans (hb3.mono (Nat.le_trans hb1.size hb2.size))⟩
 ·have hx : nmV 11 = ⟨#[106, 117, 109, 112]⟩ := rfl
  have HN := Hd (rname_free 11)
  rw [hx] at HN
  clear hx
  go_enter Tryz.func215, Tryz.ntmps215
  go_wp2_with fail
  refine (HN.out _).mono ?_
  rintro e w1 ⟨rfl, hb1⟩
  go_wp2_with fail
  all_goals go_ret
  all_goals exact ⟨rfl, hb1⟩
 ·have hx : nmV 12 = ⟨#[122, 101, 114, 111]⟩ := rfl
  have HN := Hd (rname_free 12)
  rw [hx] at HN
  clear hx
  go_enter Tryz.func215, Tryz.ntmps215
  go_wp2_with fail
  refine (HN.out _).mono ?_
  rintro e w1 ⟨rfl, hb1⟩
  go_wp2_with fail
  refine (HN.out _).mono ?_
  rintro e w2 ⟨rfl, hb2⟩
  go_wp2_with fail
  refine (HN.out _).mono ?_
  rintro e w3 ⟨rfl, hb3⟩
  go_wp2_with fail
  all_goals go_ret
  all_goals exact ⟨rfl, (hb1.trans (hb2.mono hb1.size)).trans (hb3.mono (Nat.le_trans hb1.size hb2.size))⟩
 ·have hx : nmV 13 = ⟨#[105, 110]⟩ := rfl
  have HN := Hd (rname_free 13)
  rw [hx] at HN
  clear hx
  go_enter Tryz.func215, Tryz.ntmps215
  go_wp2_with fail
  refine (HN.out _).mono ?_
  rintro e w1 ⟨rfl, hb1⟩
  go_wp2_with fail
  refine (HN.out _).mono ?_
  rintro e w2 ⟨rfl, hb2⟩
  go_wp2_with fail
  refine (HN.out _).mono ?_
  rintro e w3 ⟨rfl, hb3⟩
  go_wp2_with fail
  all_goals go_ret
  all_goals exact ⟨rfl, (hb1.trans (hb2.mono hb1.size)).trans (hb3.mono (Nat.le_trans hb1.size hb2.size))⟩
 ·have hx : nmV 14 = ⟨#[111, 117, 116]⟩ := rfl
  have HN := Hd (rname_free 14)
  rw [hx] at HN
  clear hx
  go_enter Tryz.func215, Tryz.ntmps215
  go_wp2_with fail
  refine (HN.out _).mono ?_
  rintro e w1 ⟨rfl, hb1⟩
  go_wp2_with fail
  refine (HN.out _).mono ?_
  rintro e w2 ⟨rfl, hb2⟩
  go_wp2_with fail
  refine (HN.out _).mono ?_
  rintro e w3 ⟨rfl, hb3⟩
  go_wp2_with fail
  all_goals go_ret
  all_goals exact ⟨rfl, (hb1.trans (hb2.mono hb1.size)).trans (hb3.mono (Nat.le_trans hb1.size hb2.size))⟩
 ·have hx : nmV 15 = ⟨#[108, 111, 97, 100]⟩ := rfl
  have HN := Hd (rname_free 15)
  rw [hx] at HN
  clear hx
  go_enter Tryz.func215, Tryz.ntmps215
  go_wp2_with fail
  refine (HN.out _).mono ?_
  rintro e w1 ⟨rfl, hb1⟩
  go_wp2_with fail
  refine (HN.out _).mono ?_
  rintro e w2 ⟨rfl, hb2⟩
  go_wp2_with fail
  refine (HN.out _).mono ?_
  rintro e w3 ⟨rfl, hb3⟩
  go_wp2_with fail
  all_goals go_ret
  all_goals exact ⟨rfl, (hb1.trans (hb2.mono hb1.size)).trans (hb3.mono (Nat.le_trans hb1.size hb2.size))⟩
 ·have hx : nmV 16 = ⟨#[115, 116, 111, 114, 101]⟩ := rfl
  have HN := Hd (rname_free 16)
  rw [hx] at HN
  clear hx
  go_enter Tryz.func215, Tryz.ntmps215
  go_wp2_with fail
  refine (HN.out _).mono ?_
  rintro e w1 ⟨rfl, hb1⟩
  go_wp2_with fail
  refine (HN.out _).mono ?_
  rintro e w2 ⟨rfl, hb2⟩
  go_wp2_with fail
  refine (HN.out _).mono ?_
  rintro e w3 ⟨rfl, hb3⟩
  go_wp2_with fail
  all_goals go_ret
  all_goals exact ⟨rfl, (hb1.trans (hb2.mono hb1.size)).trans (hb3.mono (Nat.le_trans hb1.size hb2.size))⟩
 ·have hx : nmV 17 = ⟨#[102, 117, 110, 99]⟩ := rfl
  have HN := Hd (rname_free 17)
  rw [hx] at HN
  clear hx
  go_enter Tryz.func215, Tryz.ntmps215
  go_wp2_with fail
  refine (HN.out _).mono ?_
  rintro e w1 ⟨rfl, hb1⟩
  go_wp2_with fail
  refine (HN.out _).mono ?_
  rintro e w2 ⟨rfl, hb2⟩
  go_wp2_with fail
  refine (HN.out _).mono ?_
  rintro e w3 ⟨rfl, hb3⟩
  go_wp2_with fail
  all_goals go_ret
  all_goals exact ⟨rfl, (hb1.trans (hb2.mono hb1.size)).trans (hb3.mono (Nat.le_trans hb1.size hb2.size))⟩
 ·have hx : nmV 18 = ⟨#[112, 105, 99, 107]⟩ := rfl
  have HN := Hd (rname_free 18)
  rw [hx] at HN
  clear hx
  go_enter Tryz.func215, Tryz.ntmps215
  go_wp2_with fail
  refine (HN.out _).mono ?_
  rintro e w1 ⟨rfl, hb1⟩
  go_wp2_with fail
  refine (HN.out _).mono ?_
  rintro e w2 ⟨rfl, hb2⟩
  go_wp2_with fail
  refine (HN.out _).mono ?_
  rintro e w3 ⟨rfl, hb3⟩
  go_wp2_with fail
  all_goals go_ret
  all_goals exact ⟨rfl, (hb1.trans (hb2.mono hb1.size)).trans (hb3.mono (Nat.le_trans hb1.size hb2.size))⟩
 ·have hx : nmV 19 = ⟨#[99, 97, 108, 108]⟩ := rfl
  have HN := Hd (rname_free 19)
  rw [hx] at HN
  clear hx
  go_enter Tryz.func215, Tryz.ntmps215
  go_wp2_with fail
  refine (HN.out _).mono ?_
  rintro e w1 ⟨rfl, hb1⟩
  go_wp2_with fail
  refine (HN.out _).mono ?_
  rintro e w2 ⟨rfl, hb2⟩
  go_wp2_with fail
  refine (HN.out _).mono ?_
  rintro e w3 ⟨rfl, hb3⟩
  go_wp2_with fail
  all_goals go_ret
  all_goals exact ⟨rfl, (hb1.trans (hb2.mono hb1.size)).trans (hb3.mono (Nat.le_trans hb1.size hb2.size))⟩
 ·have hx : nmV 20 = ⟨#[118, 105, 97]⟩ := rfl
  have HN := Hd (rname_free 20)
  rw [hx] at HN
  clear hx
  go_enter Tryz.func215, Tryz.ntmps215
  go_wp2_with fail
  refine (HN.out _).mono ?_
  rintro e w1 ⟨rfl, hb1⟩
  go_wp2_with fail
  refine (HN.out _).mono ?_
  rintro e w2 ⟨rfl, hb2⟩
  go_wp2_with fail
  refine (HN.out _).mono ?_
  rintro e w3 ⟨rfl, hb3⟩
  go_wp2_with fail
  all_goals go_ret
  all_goals exact ⟨rfl, (hb1.trans (hb2.mono hb1.size)).trans (hb3.mono (Nat.le_trans hb1.size hb2.size))⟩
 ·have hx : nmV 21 = ⟨#[100, 101, 102, 101, 114]⟩ := rfl
  have HN := Hd (rname_free 21)
  rw [hx] at HN
  clear hx
  go_enter Tryz.func215, Tryz.ntmps215
  go_wp2_with fail
  refine (HN.out _).mono ?_
  rintro e w1 ⟨rfl, hb1⟩
  go_wp2_with fail
  refine (HN.out _).mono ?_
  rintro e w2 ⟨rfl, hb2⟩
  go_wp2_with fail
  refine (HN.out _).mono ?_
  rintro e w3 ⟨rfl, hb3⟩
  go_wp2_with fail
  all_goals go_ret
  all_goals exact ⟨rfl, (hb1.trans (hb2.mono hb1.size)).trans (hb3.mono (Nat.le_trans hb1.size hb2.size))⟩
 ·have hx : nmV 22 = ⟨#[112, 97, 110, 105, 99]⟩ := rfl
  have HN := Hd (rname_free 22)
  rw [hx] at HN
  clear hx
  go_enter Tryz.func215, Tryz.ntmps215
  go_wp2_with fail
  refine (HN.out _).mono ?_
  rintro e w1 ⟨rfl, hb1⟩
  go_wp2_with fail
  refine (HN.out _).mono ?_
  rintro e w2 ⟨rfl, hb2⟩
  go_wp2_with fail
  all_goals go_ret
  all_goals exact ⟨rfl, hb1.trans (hb2.mono hb1.size)⟩
 focus
  have hx : nmV 23 = ⟨#[114, 101, 99, 111, 118, 101, 114]⟩ := rfl
  have HN := Hd (rname_free 23)
 rotate_left
 focus
  have hx : nmV 24 = ⟨#[114, 101, 116, 117, 114, 110]⟩ := rfl
  have HN := Hd (rname_free 24)
 rotate_left
 focus
  have hx : nmV 25 = ⟨#[99, 104, 101, 99, 107]⟩ := rfl
  have HN := Hd (rname_free 25)
 rotate_left
 focus
  have hx : nmV 26 = ⟨#[101, 110, 116, 101, 114]⟩ := rfl
  have HN := Hd (rname_free 26)
 rotate_left
 focus
  have hx : nmV 27 = ⟨#[98, 111, 116, 116, 111, 109]⟩ := rfl
  have HN := Hd (rname_free 27)
 rotate_left
 focus
  have hx : nmV 28 = ⟨#[100, 114, 105, 118, 101, 114]⟩ := rfl
  have HN := Hd (rname_free 28)
 rotate_left
 all_goals
  rw [hx] at HN
  clear hx
  go_enter Tryz.func215, Tryz.ntmps215
  go_wp2_with fail
  refine (HN.out _).mono ?_
  rintro e w1 ⟨rfl, hb1⟩
  go_wp2_with fail
  refine (HN.out _).mono ?_
  rintro e w2 ⟨rfl, hb2⟩
  go_wp2_with fail
  refine (HN.out _).mono ?_
  rintro e w3 ⟨rfl, hb3⟩
  go_wp2_with fail
  all_goals go_ret
  all_goals exact ⟨rfl, (hb1.trans (hb2.mono hb1.size)).trans (hb3.mono (Nat.le_trans hb1.size hb2.size))⟩
end Go.Proofs.YtdaimeaofgbfpaaGreat.By
namespace Go.Proofs.YtdaimeaofgbfpaaGreat.By
open Go.RowKit
open Mem Gm Rf
def Cd (w : World) (B : Nat) (A : Option Addr) (n c : Nat) (O T : Nat → Int) : Prop :=
 n ≤ c ∧ c ≤ maxLen ∧ ∀ i, i < n → ∃ ad x y z, A = some ad ∧ ad.block < B ∧ ∀ j u, [Value.int .i64 (O i), .int .i64 x, .int .i64 y, .int .i64 z, .int .i64 (T i)][j]? = some u → w.cell? ((ad.add (i * 5)).add j) = some u
theorem Cd.keep {w w' : World} {B n c : Nat} {A : Option Addr} {O T : Nat → Int} (h : Cd w B A n c O T) (hk : ∀ p : Addr, p.block < B → w'.cell? p = w.cell? p) : Cd w' B A n c O T :=
 ⟨h.1, h.2.1, fun i hi => by
  obtain ⟨ad, x, y, z, e, hb, hc⟩ := h.2.2 i hi
  exact ⟨ad, x, y, z, e, hb, fun j u hu => (hk _ (by rw [add_block, add_block]; exact hb)).trans (hc j u hu)⟩⟩
theorem Cd.below {w w' : World} {B n c : Nat} {A : Option Addr} {O T : Nat → Int} (h : Cd w B A n c O T) (hb : Below B w w') : Cd w' B A n c O T := h.keep fun _ hp => hb.cell hp
theorem Cd.more {w : World} {B B' n c : Nat} {A : Option Addr} {O T : Nat → Int} (h : Cd w B A n c O T) (hB : B ≤ B') : Cd w B' A n c O T :=
 ⟨h.1, h.2.1, fun i hi => by
  obtain ⟨ad, x, y, z, e, hb, hc⟩ := h.2.2 i hi
  exact ⟨ad, x, y, z, e, by omega, hc⟩⟩
theorem Cd.at_ {w : World} {B n c : Nat} {A : Option Addr} {O T : Nat → Int} (h : Cd w B A n c O T) {i : Nat} (hi : i < n) :
  ∃ ad x y z, A = some ad ∧ ad.block < B ∧ w.cell? (ad.add (i * 5)) = some (.int .i64 (O i)) ∧ w.cell? ⟨(ad.add (i * 5)).block, (ad.add (i * 5)).off + 1, none⟩ = some (.int .i64 x) ∧ w.cell? ⟨(ad.add (i * 5)).block, (ad.add (i * 5)).off + 2, none⟩ = some (.int .i64 y) ∧ w.cell? ⟨(ad.add (i * 5)).block, (ad.add (i * 5)).off + 3, none⟩ = some (.int .i64 z) ∧ w.cell? ⟨(ad.add (i * 5)).block, (ad.add (i * 5)).off + 4, none⟩ = some (.int .i64 (T i)) := by
 obtain ⟨ad, x, y, z, e, hb, hc⟩ := h.2.2 i hi
 have h0 := hc 0 _ rfl
 have h1 := hc 1 _ rfl
 have h2 := hc 2 _ rfl
 have h3 := hc 3 _ rfl
 have h4 := hc 4 _ rfl
 rw [add_field _ 1 (by omega)] at h1
 rw [add_field _ 2 (by omega)] at h2
 rw [add_field _ 3 (by omega)] at h3
 rw [add_field _ 4 (by omega)] at h4
 exact ⟨ad, x, y, z, e, hb, h0, h1, h2, h3, h4⟩
theorem ints_snoc (l : List Int) (x : Int) : ints l ++ [.int .i64 x] = ints (l ++ [x]) := by simp [ints]
theorem own_form {w : World} {base n : Nat} {v : Value} {xs : List Value} {e : TypeId} {k : Nat} (h : w.ownsRow base e k v n xs) : ∃ A c, v = .slice A n c := by
 rcases h.2 with ⟨rfl, rfl⟩ | ⟨g, cap, cur, rfl, _⟩
 ·exact ⟨none, 0, rfl⟩
 ·exact ⟨_, cap, rfl⟩
def nx (o t m : Int) : List Int := if o = 11 then [t] else if o = 22 ∨ o = 24 then [] else if o ≠ 12 ∨ t = m then [m] else if t < m then [t, m] else [m, t]
def nxt (n : Nat) (O T : Nat → Int) (i : Int) : List Int := if 0 ≤ i ∧ i < n then nx (O i.toNat) (T i.toNat) (i + 1) else []
theorem nxt_length (n : Nat) (O T : Nat → Int) (i : Int) : (nxt n O T i).length ≤ 2 := by
 unfold nxt nx
 repeat' split
 all_goals simp
theorem own_less {w : World} {base base' n k : Nat} {v : Value} {xs : List Value} {e : TypeId} (h : w.ownsRow base e k v n xs) (hb : base' ≤ base) : w.ownsRow base' e k v n xs := by
 obtain ⟨h1, h2⟩ := h
 refine ⟨h1, ?_⟩
 rcases h2 with h2 | ⟨g, cap, cur, hv, h3, r⟩
 ·exact .inl h2
 ·exact .inr ⟨g, cap, cur, hv, Nat.le_trans hb h3, r⟩
def Rw (w' : World) (base : Nat) (v : Value) (l : List Int) : Prop := ∃ A c, v = .slice A l.length c ∧ w'.ownsRow base 3 1 (.slice A l.length c) l.length (ints l)
theorem own_lit (w : World) (base : Nat) (l : List Int) (hb : base ≤ w.heap.size) (hl : l.length ≤ maxLen) : (w.alloc (.cells (ints l).toArray 3)).ownsRow base 3 1 (.slice (some ⟨w.heap.size, 0, none⟩) l.length l.length) l.length (ints l) :=
 ⟨by simp [ints], .inr ⟨w.heap.size, l.length, _, rfl, hb, heap_alloc_new w _, Nat.le_refl _, hl, by simp [ints], by rw [Nat.mul_one, List.take_of_length_le (by simp [ints])]⟩⟩
def NAns (w : World) (l : List Int) (e : Ending) (w' : World) : Prop := ∃ v, e = .returned v ∧ Rw w' w.heap.size v l ∧ Below w.heap.size w w'
theorem nans_lit (w W : World) (l : List Int) (hb : Below w.heap.size w W) (hl : l.length ≤ 2) : NAns w l (.returned (.slice (some ⟨W.heap.size, 0, none⟩) l.length l.length)) (W.alloc (.cells (ints l).toArray 3)) :=
 ⟨_, rfl, ⟨_, _, rfl, own_lit W _ l hb.size (by unfold maxLen; omega)⟩, hb.alloc hb.size _⟩
theorem nans_nil (w W : World) (hb : Below w.heap.size w W) : NAns w [] (.returned (.slice none 0 0)) W :=
 ⟨_, rfl, ⟨none, 0, rfl, World.ownsRow_nil _ _ _ _⟩, hb⟩
set_option maxRecDepth 100000 in
set_option maxHeartbeats 2000000 in
theorem rnext_any (w : World) (A : Option Addr) (n c : Nat) (O T : Nat → Int) (h : Cd w w.heap.size A n c O T) (i : Int) :
  Calls Tryz.prog 187 #[.slice A n c, .int .i64 i] w (NAns w (nxt n O T i)) := by
 have hnl : n ≤ maxLen := Nat.le_trans h.1 h.2.1
 unfold maxLen at hnl
 by_cases hp : 0 ≤ i ∧ i < n
 ·obtain ⟨k, rfl⟩ : ∃ k : Nat, i = (k : Int) := ⟨i.toNat, by omega⟩
  have hkn : k < n := by omega
  have hkI : (k : Int) < (n : Int) := by omega
  have hk9 : (k : Int) < 9223372036854775807 := by omega
  have hd0 : ¬ ((k : Int) < 0) := by omega
  have hd1 : ¬ ((n : Int) ≤ (k : Int)) := by omega
  have hx : nxt n O T (k : Int) = nx (O k) (T k) ((k : Int) + 1) := by
   unfold nxt; rw [if_pos hp]; rfl
  obtain ⟨ad, x, y, z, rfl, hab, c0, c1, c2, c3, c4⟩ := h.at_ hkn
  rw [hx]
  have HRE := Hd (rends_free (O k))
  generalize O k = o at c0 HRE ⊢
  generalize T k = t at c4 ⊢
  obtain ⟨W1, hW1⟩ : ∃ W1, w.alloc (.cells #[.int .i64 o, .int .i64 x, .int .i64 y, .int .i64 z, .int .i64 t] 53) = W1 := ⟨_, rfl⟩
  have hB1 : Below w.heap.size w W1 := by rw [← hW1]; exact (Below.refl _ w).alloc (Nat.le_refl _) _
  have hz1 : w.heap.size < W1.heap.size := by rw [← hW1]; simp
  have hcs := (Blk.new w 53 #[.int .i64 o, .int .i64 x, .int .i64 y, .int .i64 z, .int .i64 t]).cell
  rw [hW1] at hcs
  have d0 : W1.cell? ⟨w.heap.size, 0, none⟩ = some (.int .i64 o) := hcs 0
  have d4 : W1.cell? ⟨w.heap.size, 4, none⟩ = some (.int .i64 t) := hcs 4
  have HB1 := Hd hB1
  have HK := Hd (show ∀ W', Below W1.heap.size W1 W' → W'.cell? ⟨w.heap.size, 0, none⟩ = some (.int .i64 o) from fun W' hb => (hb.cell hz1).trans d0)
  have HT := Hd (show ∀ W', Below W1.heap.size W1 W' → Below w.heap.size w W' from fun W' hb => hB1.trans (hb.mono (by omega)))
  clear hx hp h hB1 hz1 hab hcs hnl
  by_cases h11 : o = 11
  ·subst h11
   have hx : nx 11 t ((k : Int) + 1) = [t] := rfl
   rw [hx]
   clear hx
   go_enter Tryz.func187, Tryz.ntmps187
   go_wp2_with fail
   go_ret
   exact nans_lit w W1 [t] HB1.out (by simp)
  ·have k11 : (o == 11) = false := by simpa using h11
   by_cases h22 : o = 22 ∨ o = 24
   ·have hx : nx o t ((k : Int) + 1) = [] := by unfold nx; rw [if_neg h11, if_pos h22]
    have hE : enV o = true := by unfold enV; simp; omega
    rw [hE] at HRE
    rw [hx]
    clear hx hE h22 h11
    go_enter Tryz.func187, Tryz.ntmps187
    go_wp2_with (go_at_call 215; refine (HRE.out _).mono ?_; rintro e w2 ⟨rfl, hb2⟩; have HB2 := Hd (HT.out _ hb2); clear hb2)
    go_ret
    exact nans_nil w w2 HB2.out
   ·have hE : enV o = false := by unfold enV; simp; omega
    rw [hE] at HRE
    have hx : nx o t ((k : Int) + 1) = if o ≠ 12 ∨ t = (k : Int) + 1 then [(k : Int) + 1] else if t < (k : Int) + 1 then [t, (k : Int) + 1] else [(k : Int) + 1, t] := by unfold nx; rw [if_neg h11, if_neg h22]
    rw [hx]
    clear hx hE
    by_cases h12 : o = 12
    ·subst h12
     by_cases ht : t = (k : Int) + 1
     ·rw [if_pos (.inr ht)]
      have e1 : (t == (k : Int) + 1) = true := by simpa using ht
      clear ht
      go_enter Tryz.func187, Tryz.ntmps187
      go_wp2_with (go_at_call 215; refine (HRE.out _).mono ?_; rintro e w2 ⟨rfl, hb2⟩; have HB2 := Hd (HT.out _ hb2); have d2 := HK.out _ hb2; clear hb2)
      go_ret
      exact nans_lit w w2 [(k : Int) + 1] HB2.out (by simp)
     ·rw [if_neg (by omega)]
      have e1 : (t == (k : Int) + 1) = false := by simpa using ht
      by_cases htl : t < (k : Int) + 1
      ·rw [if_pos htl]
       have e2 : decide (t < (k : Int) + 1) = true := by simpa using htl
       clear ht htl
       go_enter Tryz.func187, Tryz.ntmps187
       go_wp2_with (go_at_call 215; refine (HRE.out _).mono ?_; rintro e w2 ⟨rfl, hb2⟩; have HB2 := Hd (HT.out _ hb2); have d2 := HK.out _ hb2; clear hb2)
       go_ret
       exact nans_lit w w2 [t, (k : Int) + 1] HB2.out (by simp)
      ·rw [if_neg htl]
       have e2 : decide (t < (k : Int) + 1) = false := by simpa using htl
       clear ht htl
       go_enter Tryz.func187, Tryz.ntmps187
       go_wp2_with (go_at_call 215; refine (HRE.out _).mono ?_; rintro e w2 ⟨rfl, hb2⟩; have HB2 := Hd (HT.out _ hb2); have d2 := HK.out _ hb2; clear hb2)
       go_ret
       exact nans_lit w w2 [(k : Int) + 1, t] HB2.out (by simp)
    ·rw [if_pos (.inl h12)]
     have k12 : (o != 12) = true := by simpa using h12
     clear h11 h12 h22
     go_enter Tryz.func187, Tryz.ntmps187
     go_wp2_with (go_at_call 215; refine (HRE.out _).mono ?_; rintro e w2 ⟨rfl, hb2⟩; have HB2 := Hd (HT.out _ hb2); have d2 := HK.out _ hb2; clear hb2)
     go_ret
     exact nans_lit w w2 [(k : Int) + 1] HB2.out (by simp)
 ·have hx : nxt n O T i = [] := by unfold nxt; rw [if_neg hp]
  rw [hx]
  have hd : decide (i < 0) = true ∨ (decide (i < 0) = false ∧ decide ((n : Int) ≤ i) = true) := by
   by_cases h0 : i < 0
   ·exact .inl (by simpa using h0)
   ·exact .inr ⟨by simpa using h0, by simp; omega⟩
  clear hp hx h hnl
  rcases hd with hd | ⟨hd, hd2⟩
  all_goals
   go_enter Tryz.func187, Tryz.ntmps187
   go_wp2_with fail
   go_ret
   exact nans_nil w w (Below.refl _ _)
def arrN (N : Nat) (f : Nat → Value) : Array Value := ((List.range N).map f).toArray
theorem arrN_at {N : Nat} (f : Nat → Value) {i : Nat} (h : i < N) : (arrN N f)[i]? = some (f i) := by simp [arrN, h]
theorem wpList_append_wh {P : Program} (w : World) {ops : Array Oper} {rest : List Oper} {o : Oper} {a : Act} {Q : Exit → Act → World → Prop} (hgd : o.guard = none) (s x : Operand) (t : TypeId)
  (ho : o.op = .call { callee := .builtin .append, args := #[s, x], argTypes := #[t, t] })
  (base : Nat) (e : TypeId) (i : TypeInfo) (z : Value) (size bytes : Nat) (ht : P.underlying t = some (.slice e)) (hi : P.info? e = some i) (hz : i.zero = some z)
  (hsize : i.size = size) (hby : i.bytes = bytes) (hzs : z.cells.size = size) (hsz : 0 < size)
  (v : Value) (n : Nat) (xs : List Value) (hs : a.eval s = v) (hown : w.ownsRow base e size v n xs)
  (ad : Addr) (m c : Nat) (news : List Value) (hm : 0 < m) (hx : a.eval x = .slice (some ad) m c) (hl : news.length = m * size) (hnews : ∀ j u, news[j]? = some u → w.cell? (ad.add j) = some u) (h1 : ∀ u ∈ news, u.oneCell' = true)
  (h63 : n + m ≤ maxLen) (hbytes : (n + m) * bytes ≤ 140737488355328) (hbase : base ≤ w.heap.size)
  (h : ∀ v' w', w'.ownsRow base e size v' (n + m) (xs ++ news) → w.grownBy w' v.ownBlock → (v'.ownBlock = v.ownBlock ∨ v'.ownBlock = some w.heap.size) → wpList P ops Q rest (a.put o.dst v') w') : wpList P ops Q (o :: rest) a w :=
 wpList_plain hgd fun _ hK => by
  obtain ⟨v', w', hr, h2, h3, _⟩ := run_append_own (P := P) w base t o.type e i z size bytes ht hi hz hsize hby hzs hsz v n xs hown ad m c news hl hnews h1 h63 hbytes hbase
  have h5 := append_where (P := P) w base t o.type e i z size bytes ht hi hz hsize hby v n xs hown ad m c news hm hl hnews h1 h63 hbytes hr
  unfold Oper.wp execOp
  simp only [ho, resolve, invoke, builtin, Sem.run_bind, Sem.run_pure, Result.andThen_ok, List.map_toArray, List.map_cons, List.map_nil, hs, hx, hr]
  exact hK _ _ (h v' w' h2 h3 h5)
def gph (n : Nat) (O T : Nat → Int) : List (List Int) := (List.range n).map fun (i : Nat) => nxt n O T (i : Int)
theorem gph_length (n : Nat) (O T : Nat → Int) : (gph n O T).length = n := by simp [gph]
theorem gph_row {n : Nat} (O T : Nat → Int) {i : Nat} (hi : i < n) : rowOf (gph n O T) i = nxt n O T (i : Int) := by
 unfold rowOf gph
 rw [List.getD_eq_getElem?_getD, List.getElem?_map, List.getElem?_range hi]; rfl
theorem Rw.keep {W W' : World} {base : Nat} {v : Value} {l : List Int} (h : Rw W base v l) (hk : ∀ g, base ≤ g → g < W.heap.size → v.ownBlock = some g → W'.heap[g]? = W.heap[g]?) : Rw W' base v l := by
 obtain ⟨A, c, rfl, ho⟩ := h
 exact ⟨A, c, rfl, own_keep ho hk⟩
theorem Rw.below {W W' : World} {base : Nat} {v : Value} {l : List Int} (h : Rw W base v l) (hb : Below W.heap.size W W') : Rw W' base v l := h.keep fun g _ hg _ => hb.block g hg
theorem Rw.less {W : World} {base base' : Nat} {v : Value} {l : List Int} (h : Rw W base v l) (hb : base' ≤ base) : Rw W base' v l := by
 obtain ⟨A, c, rfl, ho⟩ := h
 exact ⟨A, c, rfl, own_less ho hb⟩
theorem Rw.lt {W : World} {base : Nat} {v : Value} {l : List Int} (h : Rw W base v l) {g : Nat} (hg : v.ownBlock = some g) : base ≤ g ∧ g < W.heap.size := by
 obtain ⟨A, c, rfl, ho⟩ := h
 exact ho.lt g hg
theorem Rw.slv {W : World} {base : Nat} {v : Value} {l : List Int} (h : Rw W base v l) : ∃ A c, v = .slice A l.length c ∧ SlV W W.heap.size v (ints l) := by
 obtain ⟨A, c, rfl, ho⟩ := h
 exact ⟨A, c, rfl, SlV.of_own ho⟩
def GAns (w : World) (g : List (List Int)) (e : Ending) (w' : World) : Prop := ∃ A c, e = .returned (.slice A g.length c) ∧ Gr w' w'.heap.size (.slice A g.length c) g ∧ Below w.heap.size w w'
def GA (W : World) (base : Nat) (v : Value) (k : Nat) (rs : List Value) (F : Nat → List Int) : Prop :=
 rs.length = k ∧ W.ownsRow base 44 1 v k rs ∧ ∀ i rv, rs[i]? = some rv → Rw W base rv (F i) ∧ ∀ r, rv.ownBlock = some r → v.ownBlock ≠ some r
theorem GA.below {W W' : World} {base k : Nat} {v : Value} {rs : List Value} {F : Nat → List Int} (h : GA W base v k rs F) (hb : Below W.heap.size W W') : GA W' base v k rs F :=
 ⟨h.1, own_keep h.2.1 fun g _ hg _ => hb.block g hg, fun i rv hi => ⟨((h.2.2 i rv hi).1).below hb, (h.2.2 i rv hi).2⟩⟩
theorem GA.push {wr w2 w4 : World} {base k : Nat} {v v' nv : Value} {rs : List Value} {F : Nat → List Int} (h : GA wr base v k rs F) (hb2 : Below wr.heap.size wr w2) (hn : Rw w2 wr.heap.size nv (F k)) (hB : base ≤ wr.heap.size) (o : Obj)
  (h2 : w4.ownsRow base 44 1 v' (k + 1) (rs ++ [nv])) (h3 : (w2.alloc o).grownBy w4 v.ownBlock) (h5 : v'.ownBlock = v.ownBlock ∨ v'.ownBlock = some (w2.alloc o).heap.size) : GA w4 base v' (k + 1) (rs ++ [nv]) F := by
 have hvlt : ∀ r, v.ownBlock = some r → r < wr.heap.size := fun r e => (h.2.1.lt r e).2
 have key : ∀ rv l, Rw w2 base rv l → (∀ r, rv.ownBlock = some r → v.ownBlock ≠ some r) → Rw w4 base rv l ∧ ∀ r, rv.ownBlock = some r → v'.ownBlock ≠ some r := fun rv l hr hne => by
  refine ⟨hr.keep fun g hg hlt he => ?_, fun r e => ?_⟩
  ·exact (h3.block g (by simp; omega) (fun e => hne g he e.symm)).trans (Below.heap_alloc _ _ _ hlt)
  ·have hlt := (hr.lt e).2
   rcases h5 with h5 | h5
   ·rw [h5]; exact hne r e
   ·rw [h5]; intro e2; injection e2 with e2; simp at e2; omega
 refine ⟨by rw [List.length_append, h.1]; rfl, h2, fun i rv hi => ?_⟩
 by_cases e : i < k
 ·rw [List.getElem?_append_left (by rw [h.1]; exact e)] at hi
  have h9 := (h.below hb2).2.2 i rv hi
  exact key rv _ h9.1 h9.2
 ·have hik : i = k := by have := (List.getElem?_eq_some_iff.1 hi).1; rw [List.length_append, h.1] at this; simp at this; omega
  subst hik
  rw [List.getElem?_append_right (by rw [h.1]; exact Nat.le_refl _), h.1, Nat.sub_self] at hi
  have : nv = rv := by simpa using hi
  subst this
  exact key nv _ (hn.less hB) fun r e e2 => by have h8 := (hn.lt e).1; have h9 := hvlt r e2; omega
theorem GA.gr {W : World} {base n : Nat} {v : Value} {rs : List Value} {O T : Nat → Int} (h : GA W base v n rs fun i => nxt n O T (i : Int)) : ∃ A c, v = .slice A n c ∧ Gr W W.heap.size (.slice A n c) (gph n O T) := by
 obtain ⟨A, c, rfl⟩ := own_form h.2.1
 refine ⟨A, c, rfl, rs, ?_, by rw [gph_length]; exact h.1, fun i rv hi => ?_⟩
 ·exact SlV.of_own h.2.1
 ·have hj : i < n := by have := (List.getElem?_eq_some_iff.1 hi).1; rw [h.1] at this; exact this
  rw [gph_row _ _ hj]
  exact (h.2.2 i rv hi).1.slv
set_option maxRecDepth 100000 in
set_option maxHeartbeats 2000000 in
theorem rgraph_any (w : World) (A : Option Addr) (n c : Nat) (O T : Nat → Int) (h : Cd w w.heap.size A n c O T) (hn : n ≤ 1000) :
  Calls Tryz.prog 188 #[.slice A n c] w (GAns w (gph n O T)) := by
 obtain ⟨i0, hi, hz0, hz1, hz2⟩ := info_parts infoR
 have HN := Hd (fun W (hb : Below w.heap.size w W) (i : Int) => rnext_any W A n c O T ((h.below hb).more hb.size) i)
 have HL := Hd (gph_length n O T)
 clear h
 go_enter Tryz.func188, Tryz.ntmps188
 go_wp2_with fail
 go_loopw [3, 4] (fun v i wr => ∃ (k : Nat) (rs : List Value), k ≤ n ∧ i = .int .i64 (k : Int) ∧ GA wr w.heap.size v k rs (fun i => nxt n O T (i : Int)) ∧ Below w.heap.size w wr) (fun _ i _ => n - (intOf i).toNat)
 case atStart => exact ⟨0, [], Nat.zero_le _, rfl, ⟨rfl, World.ownsRow_nil _ _ _ _, fun i rv hi => by simp at hi⟩, Below.refl _ _⟩
 case round =>
  obtain ⟨k, rs, hk, rfl, hga, hbel⟩ := hrel
  by_cases hlt : k < n
  ·have hkI : (k : Int) < (n : Int) := by omega
   have HGA := Hd hga
   have HBE := Hd hbel
   clear hga hbel
   go_wp2_with (first
    | (go_at_call 187; refine (HN.out wr HBE.out (k : Int)).mono ?_; rintro e w2 ⟨nv, rfl, hrw, hb2⟩; have HRW := Hd hrw; have HB2 := Hd hb2; obtain ⟨A2, c2, rfl, _⟩ := hrw; clear hb2)
    | (at_builtin; refine wpList_append_wh _ rfl _ _ 41 rfl w.heap.size 44 i0 (.slice none 0 0) 1 24 Tryz.underlying41 hi hz0 hz1 hz2 rfl (by decide) _ _ _ rfl (own_keep (HGA.out.below HB2.out).2.1 fun g _ hg _ => Below.heap_alloc _ _ _ hg) ⟨w2.heap.size, 0, none⟩ 1 1 [.slice A2 (nxt n O T (k : Int)).length c2] (by decide) rfl rfl (fun j u hu => by (rw [add_plain, Nat.zero_add, (Blk.new w2 _ _).cell]; simpa using hu)) (by simp [Value.oneCell']) (by unfold maxLen; omega) (by omega) (by have := HBE.out.size; have := HB2.out.size; simp; omega) ?_; intro v' w4 h2 h3 h5; have H2 := Hd h2; have H3 := Hd h3; have H5 := Hd h5; clear h2 h3 h5))
   go_roundw
   case rel =>
    have hbx : Below w.heap.size w (w2.alloc (.cells #[.slice A2 (nxt n O T (k : Int)).length c2] 44)) := (HBE.out.trans (HB2.out.mono HBE.out.size)).alloc (Nat.le_trans HBE.out.size HB2.out.size) _
    exact ⟨k + 1, rs ++ [.slice A2 (nxt n O T (k : Int)).length c2], by omega, by go_num, HGA.out.push HB2.out HRW.out HBE.out.size _ H2.out H3.out H5.out, hbx.grown H3.out hbx.size fun r e => (HGA.out.2.1.lt r e).1⟩
   case measure => simp [intOf]; omega
  ·obtain rfl : k = n := by omega
   obtain ⟨A2, c2, rfl, hgr⟩ := hga.gr
   have HGR := Hd hgr
   have HBE := Hd hbel
   clear hga hbel hgr
   go_wp2_with fail
   go_ret
   refine ⟨A2, c2, ?_, ?_, HBE.out⟩
   ·rw [HL.out]; rfl
   ·rw [HL.out]; exact HGR.out
def lv (n : Nat) (x : Int) : Bool := !(decide (0 ≤ x) && decide (x < (n : Int)))
def Els (W : World) (A : Option Addr) (M : Nat) (l : List Int) : Prop := ∀ j, j < M → ∃ ad, A = some ad ∧ W.cell? (ad.add j) = some (.int .i64 (el l j))
theorem any_el (l : List Int) (p : Int → Bool) : l.any p = true ↔ ∃ j, j < l.length ∧ p (el l j) = true := by
 rw [List.any_eq_true]
 constructor
 ·rintro ⟨x, hx, hp⟩
  obtain ⟨j, hj, rfl⟩ := List.getElem_of_mem hx
  exact ⟨j, hj, by rw [← el_at hj]; exact hp⟩
 ·rintro ⟨j, hj, hp⟩
  exact ⟨l[j], List.getElem_mem _, by rw [el_at hj]; exact hp⟩
def GAn (n : Nat) (g : List (List Int)) (w : World) (e : Ending) (w' : World) : Prop := ∃ A c, e = .returned (.slice A n c) ∧ Gr w' w'.heap.size (.slice A n c) g ∧ Below w.heap.size w w'
theorem GAns.n {n : Nat} {O T : Nat → Int} {w w' : World} {e : Ending} (h : GAns w (gph n O T) e w') : GAn n (gph n O T) w e w' := by
 unfold GAns at h
 rw [gph_length] at h
 exact h
def chk (n : Nat) (g : List (List Int)) : Int := if n = 0 then 3 else if 64 < n then 6 else if (∃ i, i < n ∧ (rowOf g i).any (lv n) = true) then 10 else 0
def CAns (w : World) (x : Int) (e : Ending) (w' : World) : Prop := e = .returned (.int .i64 x) ∧ Below w.heap.size w w'
theorem chk_bad {n : Nat} {g : List (List Int)} (h0 : ¬ n = 0) (h1 : ¬ 64 < n) {i : Nat} (hi : i < n) (h : (rowOf g i).any (lv n) = true) : chk n g = 10 := by
 unfold chk
 rw [if_neg h0, if_neg h1, if_pos ⟨i, hi, h⟩]
theorem chk_good {n : Nat} {g : List (List Int)} (h0 : ¬ n = 0) (h1 : ¬ 64 < n) (h : ∀ i, i < n → (rowOf g i).any (lv n) = false) : chk n g = 0 := by
 unfold chk
 rw [if_neg h0, if_neg h1, if_neg]
 rintro ⟨i, hi, h2⟩
 rw [h i hi] at h2; cases h2
theorem els_row {W : World} {A : Option Addr} {c M : Nat} {l : List Int} (hM : l.length = M) (h : SlV W W.heap.size (.slice A M c) (ints l)) : Els W A M l := fun j hj => by
 rw [← hM] at h
 rcases ints_row h with ⟨e, _⟩ | ⟨ad, e, _, hc⟩
 ·rw [e] at hM; simp at hM; omega
 ·exact ⟨ad, e, hc j (by omega)⟩
theorem lv_cases {n : Nat} {x : Int} (h : lv n x = true) : x < 0 ∨ (¬ x < 0 ∧ (n : Int) ≤ x) := by
 unfold lv at h
 rw [Bool.not_eq_true', Bool.and_eq_false_iff, decide_eq_false_iff_not, decide_eq_false_iff_not] at h
 omega
theorem lv_not {n : Nat} {x : Int} (h : lv n x = false) : ¬ x < 0 ∧ ¬ (n : Int) ≤ x := by
 unfold lv at h
 rw [Bool.not_eq_false', Bool.and_eq_true, decide_eq_true_eq, decide_eq_true_eq] at h
 omega
set_option maxRecDepth 100000 in
set_option maxHeartbeats 2000000 in
theorem rfcheck_any (w : World) (A : Option Addr) (n c : Nat) (O T : Nat → Int) (h : Cd w w.heap.size A n c O T) :
  Calls Tryz.prog 206 #[.slice A n c] w (CAns w (chk n (gph n O T))) := by
 by_cases h0 : n = 0
 ·have hx : chk n (gph n O T) = 3 := by unfold chk; rw [if_pos h0]
  rw [hx]
  subst h0
  clear hx h
  go_enter Tryz.func206, Tryz.ntmps206
  go_wp2_with fail
  go_ret
  exact ⟨rfl, Below.refl _ _⟩
 ·by_cases h64 : 64 < n
  ·have hx : chk n (gph n O T) = 6 := by unfold chk; rw [if_neg h0, if_pos h64]
   rw [hx]
   have k0 : ((n : Int) == 0) = false := by simp; omega
   have k1 : (64 : Int) < (n : Int) := by omega
   clear hx h h0 h64
   go_enter Tryz.func206, Tryz.ntmps206
   go_wp2_with fail
   go_ret
   exact ⟨rfl, Below.refl _ _⟩
  ·have HN := Hd (fun W (hb : Below w.heap.size w W) (i : Int) => rnext_any W A n c O T ((h.below hb).more hb.size) i)
   have HBAD := Hd (fun i (hi : i < n) (hh : (rowOf (gph n O T) i).any (lv n) = true) => chk_bad h0 h64 hi hh)
   have HGOOD := Hd (fun (hh : ∀ i, i < n → (rowOf (gph n O T) i).any (lv n) = false) => chk_good (g := gph n O T) h0 h64 hh)
   have k0 : ((n : Int) == 0) = false := by simp; omega
   have k1 : ¬ (64 : Int) < (n : Int) := by omega
   have HN64 := Hd (show n ≤ 64 by omega)
   have HROW := Hd (fun i (hi : i < n) => gph_row O T hi)
   clear h h0 h64
   generalize chk n (gph n O T) = y at HBAD HGOOD ⊢
   generalize gph n O T = g at HBAD HGOOD HROW
   go_enter Tryz.func206, Tryz.ntmps206
   go_wp2_with fail
   clear k0 k1
   go_loopw [3] (fun i wr => ∃ k : Nat, k ≤ n ∧ i = .int .i64 (k : Int) ∧ Hid (∀ i, i < k → (rowOf g i).any (lv n) = false) ∧ Below w.heap.size w wr) (fun i _ => n - (intOf i).toNat)
   case atStart => exact ⟨0, Nat.zero_le _, rfl, Hd (fun i hi => by omega), Below.refl _ _⟩
   case round =>
    obtain ⟨k, hk, rfl, HO, hbel⟩ := hrel
    by_cases hlt : k < n
    ·have hkI : (k : Int) < (n : Int) := by omega
     have hro := HROW.out k hlt
     have HKL := Hd hlt
     have HX := Hd (HN.out wr hbel (k : Int))
     rw [← hro] at HX
     have hl2 : (rowOf g k).length ≤ 2 := by rw [hro]; exact nxt_length ..
     obtain ⟨l, hl⟩ : ∃ l, rowOf g k = l := ⟨_, rfl⟩
     rw [hl] at HX hl2
     have HL := Hd hl
     have HL2 := Hd hl2
     have HBE := Hd hbel
     clear hbel hro hl hl2
     go_wp2_with (go_at_call 187; refine HX.out.mono ?_; rintro e w2 ⟨v2, rfl, hrw, hb2⟩; obtain ⟨A2, c2, rfl, hs2⟩ := hrw.slv; obtain ⟨M, hM⟩ : ∃ M, l.length = M := ⟨_, rfl⟩; have HM := Hd hM; rw [hM] at hs2 ⊢; have HE := Hd (els_row hM hs2); have hM2 : M ≤ 2 := (by rw [← hM]; exact HL2.out); have HB2 := Hd hb2; clear hs2 hM hb2 hrw)
     go_loop [5] (fun i => ∃ j : Nat, j ≤ M ∧ i = .int .i64 (j : Int) ∧ Hid (∀ i, i < j → lv n (el l i) = false)) (fun i => M - (intOf i).toNat)
     case atStart => exact ⟨0, Nat.zero_le _, rfl, Hd (fun i hi => by omega)⟩
     case round =>
      obtain ⟨j, hj, rfl, HI⟩ := hrel
      by_cases hjt : j < M
      ·obtain ⟨ad, rfl, hx⟩ := HE.out j hjt
       have hjI : (j : Int) < (M : Int) := by omega
       obtain ⟨x, hxe⟩ : ∃ x, el l j = x := ⟨_, rfl⟩
       rw [hxe] at hx
       cases hb : lv n x with
       | true =>
        have HF := Hd (HBAD.out k hlt (by rw [HL.out]; exact (any_el _ _).2 ⟨j, by rw [HM.out]; exact hjt, by rw [hxe]; exact hb⟩))
        have hcs := lv_cases hb
        clear hxe hb
        rcases hcs with hcs | ⟨hcs, hcs2⟩
        ·go_wp2_with fail
         go_ret
         exact ⟨ret_int (by rw [HF.out]), HBE.out.trans (HB2.out.mono HBE.out.size)⟩
        ·go_wp2_with fail
         go_ret
         exact ⟨ret_int (by rw [HF.out]), HBE.out.trans (HB2.out.mono HBE.out.size)⟩
       | false =>
        have HI2 := Hd (show ∀ i, i < j + 1 → lv n (el l i) = false from fun i hi => by
         by_cases e : i = j
         ·subst e; rw [hxe]; exact hb
         ·exact HI.out i (by omega))
        obtain ⟨hcs, hcs2⟩ := lv_not hb
        clear hxe hb HI
        go_wp2_with fail
        go_round
        case rel => exact ⟨j + 1, by omega, by go_num, HI2⟩
        case measure => simp [intOf]; omega
      ·obtain rfl : j = M := by omega
       have HO2 := Hd (show ∀ i, i < k + 1 → (rowOf g i).any (lv n) = false from fun i hi => by
        by_cases e : i = k
        ·subst e
         rw [HL.out, Bool.eq_false_iff]
         intro hh
         obtain ⟨i2, hi2, hp⟩ := (any_el l _).1 hh
         rw [HM.out] at hi2
         rw [HI.out i2 hi2] at hp
         cases hp
        ·exact HO.out i (by omega))
       have hk64 : (k : Int) < 64 := by have := HKL.out; have := HN64.out; omega
       clear HO HI
       go_wp2_with fail
       go_roundw
       case rel => exact ⟨k + 1, by have := HKL.out; omega, by go_num, HO2, HBE.out.trans (HB2.out.mono HBE.out.size)⟩
       case measure => have := HKL.out; simp [intOf]; omega
    ·obtain rfl : k = n := by omega
     have HF := Hd (HGOOD.out HO.out)
     have HBE := Hd hbel
     clear hbel
     go_wp2_with fail
     go_ret
     exact ⟨ret_int (by rw [HF.out]), HBE.out⟩
def nkB (z : Int) : Bool := !(decide (0 ≤ z) && decide (z ≤ 8))
def nnB (z : Int) : Bool := !decide (z = 0)
def frB (z m : Int) : Bool := decide (0 ≤ z) && decide (z ≤ m)
def lnB9 (x : Ln) : Bool := !frB x.2 65535
def rfB9 (x : Rl) : Bool := !frB x.2.1 31
def risB (m : Int) : Int → List Int → Bool
 | _, [] => true
 | z, a :: r => (decide (z < a) && decide (a < m)) && risB m a r
def frV (x : Fn) : Int := if Si.isC x.k = false then 14 else if 16 < x.ks.length then 6 else if (x.ks.length : Int) < Si.parV x.k then 2 else if (x.ks.any nkB || (x.ks.take (Si.parV x.k).toNat).any nnB) = true then 8 else if frB x.pd 4096 = true then 0 else 9
noncomputable def codL : List In5 → Int
 | [] => 0
 | x :: r => if chV x.1 x.2.1 x.2.2.1 x.2.2.2.1 x.2.2.2.2 ≠ 0 then chV x.1 x.2.1 x.2.2.1 x.2.2.2.1 x.2.2.2.2 else if ownV x.1 = false then 8 else codL r
noncomputable def flowV (l : List In5) : Int := chk l.length (gph l.length (fun i => (inAt l i).1) (fun i => (inAt l i).2.2.2.2))
noncomputable def cdV (x : Fn) : Int := if flowV x.cs ≠ 0 then flowV x.cs else codL x.cs
def s4B (f t : Int) (n : Nat) : Bool := decide (0 ≤ f) && decide (f ≤ t) && decide (t ≤ (n : Int))
def rgV (x : Fn) : Int := if s4B x.f x.t x.cs.length = true then 0 else 9
def f0B : List Ln → Bool
 | [] => true
 | a :: _ => decide (a.1 = 0)
def lnV9 (x : Fn) : Int := if 16 < x.ls.length then 6 else if (f0B x.ls && (risB (x.cs.length : Int) (-1) (x.ls.map fun y => y.1) && !(x.ls.any lnB9))) = true then 0 else 9
def rfV9 (x : Fn) : Int := if (risB (x.cs.length : Int) (-1) (x.rs.map fun y => y.1) && !(x.rs.any rfB9)) = true then 0 else 11
def firN : List Int → Int
 | [] => 0
 | a :: r => if a ≠ 0 then a else firN r
noncomputable def chF (x : Fn) : Int := firN [frV x, cdV x, rgV x, lnV9 x, rfV9 x]
theorem Cd.of_in {w : World} {A : Option Addr} {n c : Nat} {l : List In5} (h : InL w A n c l) : Cd w w.heap.size A n c (fun i => (inAt l i).1) (fun i => (inAt l i).2.2.2.2) :=
 ⟨h.2.1, h.2.2.1, fun i hi => by
  obtain ⟨ad, e, hb, hc⟩ := h.2.2.2.2 i _ (inAt_some (by rw [h.1]; exact hi))
  exact ⟨ad, _, _, _, e, hb, hc⟩⟩
theorem codL_at {l : List In5} {k : Nat} {x : In5} (h : l[k]? = some x) : codL (l.drop k) = if chV x.1 x.2.1 x.2.2.1 x.2.2.2.1 x.2.2.2.2 ≠ 0 then chV x.1 x.2.1 x.2.2.1 x.2.2.2.1 x.2.2.2.2 else if ownV x.1 = false then 8 else codL (l.drop (k + 1)) := by
 have hk := (List.getElem?_eq_some_iff.1 h).1
 have hx := (List.getElem?_eq_some_iff.1 h).2
 rw [List.drop_eq_getElem_cons hk, hx]
 rfl
theorem refA_drop (rs : List Rl) (i : Int) (q : Nat) (hq : q < rs.length) : refA (rs.drop q) i = if (rlAt rs q).1 = i then some (rlAt rs q) else refA (rs.drop (q + 1)) i := by
 have h : rs.drop q = rlAt rs q :: rs.drop (q + 1) := by
  rw [List.drop_eq_getElem_cons hq]
  have := rlAt_some hq
  rw [List.getElem?_eq_getElem hq] at this
  injection this with this
  rw [this]
 rw [h]
 rfl
theorem blk5f {w : World} {g : Nat} {t : TypeId} {cs : Array Value} (h : Blk w g t cs) : w.frozen? ⟨g, 0, none⟩ = false ∧ w.frozen? ⟨g, 1, none⟩ = false ∧ w.frozen? ⟨g, 2, none⟩ = false ∧ w.frozen? ⟨g, 3, none⟩ = false ∧ w.frozen? ⟨g, 4, none⟩ = false :=
 ⟨h.frozen 0, h.frozen 1, h.frozen 2, h.frozen 3, h.frozen 4⟩
theorem blk_put5 {w : World} {g : Nat} {t : TypeId} {a b c d e : Value} (h : Blk w g t #[a, b, c, d, e]) (a' b' c' d' e' : Value) : Blk ((((((w.setCell ⟨g, 0, none⟩ a').setCell ⟨g, 1, none⟩ b').setCell ⟨g, 2, none⟩ c').setCell ⟨g, 3, none⟩ d').setCell ⟨g, 4, none⟩ e')) g t #[a', b', c', d', e'] :=
 ((((h.stored 0 a').stored 1 b').stored 2 c').stored 3 d').stored 4 e'
theorem below_put5 {B : Nat} {w0 w : World} (h : Below B w0 w) (r : Nat) (hr : B ≤ r) (a b c d e : Value) : Below B w0 ((((((w.setCell ⟨r, 0, none⟩ a).setCell ⟨r, 1, none⟩ b).setCell ⟨r, 2, none⟩ c).setCell ⟨r, 3, none⟩ d).setCell ⟨r, 4, none⟩ e)) :=
 (((((h.setCell (p := ⟨r, 0, none⟩) hr _).setCell (p := ⟨r, 1, none⟩) hr _).setCell (p := ⟨r, 2, none⟩) hr _).setCell (p := ⟨r, 3, none⟩) hr _).setCell (p := ⟨r, 4, none⟩) hr _)
end Go.Proofs.YtdaimeaofgbfpaaGreat.By
