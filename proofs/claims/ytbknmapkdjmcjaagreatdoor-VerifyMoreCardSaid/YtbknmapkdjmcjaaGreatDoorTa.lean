/-
  MATHEMATICS of layer 17: what is wrong of an instruction, as the program has it and as the document has it.
-/
import Derived.Test.YtbknmapkdjmcjaaGreatDoorJa
import Derived.Test.YtbknmapkdjmcjaaGreatDoorSx
import Derived.Test.YtbknmapkdjmcjaaGreatDoorIa
import Derived.Test.YtbknmapkdjmcjaaGreatDoorRf
namespace Go.Proofs.YtbknmapkdjmcjaaGreatDoor.By
open Go.RowKit
open Mem Gm Rf
set_option linter.unusedSimpArgs false
set_option linter.unusedVariables false

/-- The first reference at a place. -/
def refA : List Rl → Int → Option Rl
  | [], _ => none
  | r :: l, i => if r.1 = i then some r else refA l i
def inL (i : Int) (n : Nat) : Bool := decide (0 ≤ i ∧ i < (n : Int))
def sy0 : Sy := (⟨#[]⟩, false, 0, 0, 0)
/-- The symbol to which it refers. -/
def symA (rs : List Rl) (l : List Sy) (i : Int) : Option Sy :=
  match refA rs i with
  | none => none
  | some r => if inL r.2.1 l.length = true then some (syAt l r.2.1.toNat) else none
def symO (rs : List Rl) (l : List Sy) (i : Int) : Sy := (symA rs l i).getD sy0
/-- Whether a symbol, by its Sort and Kind, is of what is needed. -/
def isOfV (so kd need : Int) : Bool :=
  if need = 0 then true else if need = 3 then decide (so = 2 ∧ kd = 0) else if need = 4 then decide (so = 2) && Si.clB kd else decide (so = 1)
/-- The class of the functions of which an instruction is. -/
def clsV (o c kd : Int) : Int := if o = 20 then c else if o = 18 then clV' kd else kd
where clV' (n : Int) : Int := Si.clV n
def slE (ks : List Int) (i k : Int) : Int := if inL i ks.length = true then (if el ks i.toNat = k then 0 else 8) else 9
def unE (i : Int) : Int := if i = 0 then 0 else 2
/-- The first error of so many slots from one on. -/
def caE (ks : List Int) (i : Int) : Nat → Int
  | 0 => 0
  | n + 1 => if caE ks i n = 0 then slE ks (wrap64 (i + n)) 0 else caE ks i n
def cdE (ks : List Int) (cl i : Int) : Int := if Si.parV cl = 0 ∧ Si.ansV cl = false then unE i else caE ks i (if Si.parV cl = 0 then 1 else (Si.parV cl).toNat)
def dfE (ks : List Int) (cl i : Int) : Int := if Si.parV cl = 0 then unE i else slE ks i 0
def anE (ks : List Int) (own i : Int) : Int := if Si.ansV own = false then unE i else slE ks i 0
/-- The error of an operand, by its letter. -/
def ltE (ks : List Int) (own cl : Int) (c : Nat) (i : Int) : Int :=
  if c = 119 ∨ c = 114 then slE ks i 0 else if c = 103 ∨ c = 102 then slE ks i (wrap64 (1 + cl)) else if c = 99 then cdE ks cl i else if c = 100 then dfE ks cl i else if c = 118 then anE ks own i else 0
def shl (o : Int) : List UInt8 := if 1 ≤ o ∧ o ≤ 24 then shs.getD o.toNat [] else []
def opc (y : In5) (i : Int) : Int := opdV y.2.1 y.2.2.1 y.2.2.2.1 y.2.2.2.2 i
/-- The first error of the first n operands. -/
def opE (ks : List Int) (own cl : Int) (y : In5) : Nat → Int
  | 0 => 0
  | n + 1 => if opE ks own cl y n = 0 then ltE ks own cl ((shl y.1).getD n 0).toNat (opc y n) else opE ks own cl y n
def veC (o cl : Int) : Int := if (o = 20 ∧ Si.isC cl = false) ∨ (o = 21 ∧ Si.latV cl = false) then 14 else 0
/-- What is wrong of an instruction, its symbol known. -/
def veX (ks : List Int) (own : Int) (y : In5) (so kd : Int) : Int :=
  if isOfV so kd (ndV y.1) = false then 8
  else if veC y.1 (clsV y.1 y.2.2.2.1 kd) ≠ 0 then 14
  else opE ks own (clsV y.1 y.2.2.2.1 kd) y (shl y.1).length
def veI (x : Fn) (l : List Sy) (i : Int) : Int :=
  if inL i x.cs.length = false then 2
  else if (ndV (inAt x.cs i.toNat).1 ≠ 0 ∧ symA x.rs l i = none) ∨ ((refA x.rs i).isSome = true ∧ ndV (inAt x.cs i.toNat).1 = 0) then 11
  else veX x.ks x.k (inAt x.cs i.toNat) (symO x.rs l i).2.2.1 (symO x.rs l i).2.2.2.1
/-- The first instruction that is wrong, among the first n, and why. -/
def veL (x : Fn) (l : List Sy) : Nat → Int × Int
  | 0 => (0, -1)
  | n + 1 => if (veL x l n).1 = 0 then (if veI x l n = 0 then (0, -1) else (veI x l n, (n : Int))) else veL x l n
theorem veL_fix {x : Fn} {l : List Sy} {k : Nat} (h : (veL x l k).1 ≠ 0) : ∀ n, k ≤ n → veL x l n = veL x l k
  | 0, hn => by obtain rfl : k = 0 := by omega
                rfl
  | n + 1, hn => by
    by_cases he : k = n + 1
    · subst he; rfl
    · have h1 := veL_fix h n (by omega)
      rw [veL, if_neg (by rw [h1]; exact h), h1]
/-- Which class an instruction calls. -/
def veK (x : Fn) (l : List Sy) (i : Int) : Int × Bool :=
  if inL i x.cs.length = false then (0, false)
  else if (inAt x.cs i.toNat).1 = 20 then (if Si.isC (inAt x.cs i.toNat).2.2.2.1 = true then ((inAt x.cs i.toNat).2.2.2.1, true) else (0, false))
  else if (inAt x.cs i.toNat).1 = 19 ∨ (inAt x.cs i.toNat).1 = 21 then
    (match symA x.rs l i with
     | none => (0, false)
     | some s => if s.2.2.1 = 1 then (if Si.isC s.2.2.2.1 = true then (s.2.2.2.1, true) else (0, false)) else (0, false))
  else (0, false)
def veS (x : Fn) (i : Int) : Int := match refA x.rs i with | none => -1 | some r => r.2.1

-- the document's
/-- What is wrong of a reference, by the document: the error. -/
def dfits (need so kd : Int) : Bool := if need = 1 ∨ need = 2 ∨ need = 5 then decide (so = 1) else if need = 3 then decide (so = 2 ∧ kd = 0) else decide (so = 2) && Si.isC (wrap64 (kd - 1))
def drE (x : Fn) (l : List Sy) (i : Int) (need : Int) : Int :=
  if decide (0 < need) ≠ (refA x.rs i).isSome then 11
  else if need = 0 then 0
  else if inL (veS x i) l.length = false then 11
  else if dfits need (syAt l (veS x i).toNat).2.2.1 (syAt l (veS x i).toNat).2.2.2.1 = false then 8 else 0
def dSy (x : Fn) (l : List Sy) (i : Int) (need : Int) : Sy := if drE x l i need = 0 then (if need = 0 then sy0 else syAt l (veS x i).toNat) else sy0
def dclV (o c kd : Int) : Int := if o = 18 then wrap64 (kd - 1) else if o = 19 ∨ o = 17 ∨ o = 21 then kd else c
def dvI (x : Fn) (l : List Sy) (i : Int) : Int :=
  if inL i x.cs.length = false then 2
  else if drE x l i (ndV (inAt x.cs i.toNat).1) ≠ 0 then drE x l i (ndV (inAt x.cs i.toNat).1)
  else if ((inAt x.cs i.toNat).1 = 20 ∧ Si.isC (inAt x.cs i.toNat).2.2.2.1 = false) ∨ ((inAt x.cs i.toNat).1 = 21 ∧ Si.latV (dSy x l i (ndV (inAt x.cs i.toNat).1)).2.2.2.1 = false) then 14
  else opE x.ks x.k (dclV (inAt x.cs i.toNat).1 (inAt x.cs i.toNat).2.2.2.1 (dSy x l i (ndV (inAt x.cs i.toNat).1)).2.2.2.1) (inAt x.cs i.toNat) (shl (inAt x.cs i.toNat).1).length

theorem nd_cases (o : Int) : ndV o = 0 ∨ ndV o = 1 ∨ ndV o = 2 ∨ ndV o = 3 ∨ ndV o = 4 ∨ ndV o = 5 := by
  unfold ndV; repeat' split
  all_goals simp
theorem wr_pred (k : Int) (h1 : -9223372036854775808 ≤ k) (h2 : k ≤ 9223372036854775807) : Si.isC (wrap64 (k - 1)) = Si.clB k := by
  by_cases h : k = -9223372036854775808
  · subst h; decide +kernel
  · rw [wrap_in _ ⟨by omega, by omega⟩]
    unfold Si.isC Si.clB
    exact decide_eq_decide.2 (by omega)
theorem fits_is (need so kd : Int) (hn : need = 1 ∨ need = 2 ∨ need = 3 ∨ need = 4 ∨ need = 5) (h1 : -9223372036854775808 ≤ kd) (h2 : kd ≤ 9223372036854775807) : dfits need so kd = isOfV so kd need := by
  unfold dfits isOfV
  rcases hn with rfl | rfl | rfl | rfl | rfl <;> simp [wr_pred kd h1 h2]
/-- The letters that ask for the class stand in few shapes. -/
theorem no_class9 : ∀ o : Fin 25, ∀ k : Fin 4, (o.1 = 17 ∨ o.1 = 18 ∨ o.1 = 19 ∨ o.1 = 20 ∨ o.1 = 21) ∨ (((shs.getD o.1 []).getD k.1 0).toNat ≠ 103 ∧ ((shs.getD o.1 []).getD k.1 0).toNat ≠ 102 ∧ ((shs.getD o.1 []).getD k.1 0).toNat ≠ 99 ∧ ((shs.getD o.1 []).getD k.1 0).toNat ≠ 100) := by decide +kernel
theorem no_class (o : Nat) (ho : o < 25) (h1 : o ≠ 17) (h2 : o ≠ 18) (h3 : o ≠ 19) (h4 : o ≠ 20) (h5 : o ≠ 21) (k : Nat) (hk : k < 4) : ((shs.getD o []).getD k 0).toNat ≠ 103 ∧ ((shs.getD o []).getD k 0).toNat ≠ 102 ∧ ((shs.getD o []).getD k 0).toNat ≠ 99 ∧ ((shs.getD o []).getD k 0).toNat ≠ 100 := by
  rcases no_class9 ⟨o, ho⟩ ⟨k, hk⟩ with h | h
  · simp [h1, h2, h3, h4, h5] at h
  · exact h
theorem sh_len : ∀ o : Nat, o < 25 → (shs.getD o []).length ≤ 4 := by decide +kernel
theorem sh_low : ∀ o : Nat, o < 25 → ∀ k : Nat, k < 4 → ((shs.getD o []).getD k 0).toNat < 128 := by decide +kernel
theorem shl_len (o : Int) : (shl o).length ≤ 4 := by
  unfold shl
  split
  · exact sh_len o.toNat (by omega)
  · simp
theorem opE_class (ks : List Int) (own cl cl' : Int) (y : In5) (h : ∀ k, k < (shl y.1).length → ((shl y.1).getD k 0).toNat ≠ 103 ∧ ((shl y.1).getD k 0).toNat ≠ 102 ∧ ((shl y.1).getD k 0).toNat ≠ 99 ∧ ((shl y.1).getD k 0).toNat ≠ 100) : ∀ n, n ≤ (shl y.1).length → opE ks own cl y n = opE ks own cl' y n
  | 0, _ => rfl
  | n + 1, hn => by
    have ih := opE_class ks own cl cl' y h n (by omega)
    obtain ⟨h1, h2, h3, h4⟩ := h n (by omega)
    rw [opE, opE, ih]
    unfold ltE
    simp only [h1, h2, h3, h4, if_false, or_false]
theorem ve_alike (x : Fn) (l : List Sy) (i : Int) (hb : ∀ k, -9223372036854775808 ≤ (syAt l k).2.2.2.1 ∧ (syAt l k).2.2.2.1 ≤ 9223372036854775807) : dvI x l i = veI x l i := by
  unfold dvI veI
  by_cases h0 : inL i x.cs.length = false
  · rw [if_pos h0, if_pos h0]
  rw [if_neg h0, if_neg h0]
  generalize inAt x.cs i.toNat = y
  have hsm : ∀ r, refA x.rs i = some r → veS x i = r.2.1 := fun r h => by unfold veS; rw [h]
  cases hr : refA x.rs i with
  | none =>
    have hsy : symA x.rs l i = none := by unfold symA; rw [hr]
    by_cases hn : ndV y.1 = 0
    · have hd : drE x l i (ndV y.1) = 0 := by unfold drE; rw [hn, hr]; rfl
      have hs : dSy x l i (ndV y.1) = sy0 := by unfold dSy; rw [hd, hn]; rfl
      have ho : symO x.rs l i = sy0 := by unfold symO; rw [hsy]; rfl
      rw [hd, hs, ho, if_neg (show ¬ (0 : Int) ≠ 0 by decide), if_neg (show ¬ ((ndV y.1 ≠ 0 ∧ symA x.rs l i = none) ∨ ((none : Option Rl).isSome = true ∧ ndV y.1 = 0)) from by simp [hn])]
      unfold veX
      rw [hn, if_neg (show ¬ isOfV sy0.2.2.1 sy0.2.2.2.1 0 = false by decide)]
      have hne : y.1 ≠ 17 ∧ y.1 ≠ 18 ∧ y.1 ≠ 19 ∧ y.1 ≠ 21 := by
        refine ⟨?_, ?_, ?_, ?_⟩ <;> (intro e; rw [e] at hn; revert hn; decide)
      by_cases h20 : y.1 = 20
      · have hc1 : clsV y.1 y.2.2.2.1 sy0.2.2.2.1 = y.2.2.2.1 := by unfold clsV; rw [if_pos h20]
        have hc2 : dclV y.1 y.2.2.2.1 sy0.2.2.2.1 = y.2.2.2.1 := by unfold dclV; rw [h20]; simp
        rw [hc1, hc2]
        unfold veC
        rw [h20]
        cases hcc : Si.isC y.2.2.2.1
        · rw [if_pos (by simp), if_pos (by simp)]
        · rw [if_neg (by simp), if_neg (by simp)]
      · have hc2 : dclV y.1 y.2.2.2.1 sy0.2.2.2.1 = y.2.2.2.1 := by unfold dclV; rw [if_neg hne.2.1, if_neg (by omega)]
        rw [hc2, if_neg (show ¬ ((y.1 = 20 ∧ Si.isC y.2.2.2.1 = false) ∨ (y.1 = 21 ∧ Si.latV sy0.2.2.2.1 = false)) from by simp [h20, hne.2.2.2]), if_neg (show ¬ veC y.1 (clsV y.1 y.2.2.2.1 sy0.2.2.2.1) ≠ 0 from by unfold veC; simp [h20, hne.2.2.2])]
        refine opE_class _ _ _ _ _ (fun k hk => ?_) _ (Nat.le_refl _)
        unfold shl at hk ⊢
        by_cases ho : 1 ≤ y.1 ∧ y.1 ≤ 24
        · rw [if_pos ho] at hk ⊢
          exact no_class y.1.toNat (by omega) (by omega) (by omega) (by omega) (by omega) (by omega) k (by have := sh_len y.1.toNat (by omega); omega)
        · rw [if_neg ho] at hk; simp at hk
    · have hd : drE x l i (ndV y.1) = 11 := by
        unfold drE
        have hp : 0 < ndV y.1 := by have := nd_cases y.1; omega
        rw [hr, if_pos (by simp [hp])]
      rw [hd, if_pos (show (11 : Int) ≠ 0 by decide), if_pos (show (ndV y.1 ≠ 0 ∧ symA x.rs l i = none) ∨ ((none : Option Rl).isSome = true ∧ ndV y.1 = 0) from Or.inl ⟨hn, hsy⟩)]
  | some r =>
    by_cases hn : ndV y.1 = 0
    · have hd : drE x l i (ndV y.1) = 11 := by unfold drE; rw [hn, hr]; rfl
      rw [hd, if_pos (show (11 : Int) ≠ 0 by decide), if_pos (show (ndV y.1 ≠ 0 ∧ symA x.rs l i = none) ∨ ((some r).isSome = true ∧ ndV y.1 = 0) from Or.inr ⟨rfl, hn⟩)]
    · have hp : 0 < ndV y.1 := by have := nd_cases y.1; omega
      have hv := hsm r hr
      by_cases hin : inL r.2.1 l.length = true
      · have hsy : symA x.rs l i = some (syAt l r.2.1.toNat) := by unfold symA; rw [hr]; dsimp only; rw [if_pos hin]
        have ho : symO x.rs l i = syAt l r.2.1.toNat := by unfold symO; rw [hsy]; rfl
        have hd : drE x l i (ndV y.1) = if isOfV (syAt l r.2.1.toNat).2.2.1 (syAt l r.2.1.toNat).2.2.2.1 (ndV y.1) = false then 8 else 0 := by
          unfold drE
          rw [hr, if_neg (by simp [hp]), if_neg hn, hv, if_neg (by rw [hin]; decide), fits_is _ _ _ (by have := nd_cases y.1; omega) (hb _).1 (hb _).2]
        rw [ho, if_neg (show ¬ ((ndV y.1 ≠ 0 ∧ symA x.rs l i = none) ∨ ((some r).isSome = true ∧ ndV y.1 = 0)) from by rw [hsy]; simp [hn])]
        generalize hz : syAt l r.2.1.toNat = s at hd
        unfold veX
        by_cases hf : isOfV s.2.2.1 s.2.2.2.1 (ndV y.1) = false
        · rw [hd, if_pos hf, if_pos (show (8 : Int) ≠ 0 by decide), if_pos hf]
        · rw [if_neg hf] at hd
          have hs : dSy x l i (ndV y.1) = s := by unfold dSy; rw [hd, if_pos rfl, if_neg hn, hv, hz]
          rw [hd, hs, if_neg (show ¬ (0 : Int) ≠ 0 by decide), if_neg hf]
          have hop : y.1 = 15 ∨ y.1 = 16 ∨ y.1 = 17 ∨ y.1 = 18 ∨ y.1 = 19 ∨ y.1 = 21 := by
            unfold ndV at hn
            repeat' split at hn
            all_goals omega
          have h20 : y.1 ≠ 20 := by omega
          by_cases h18 : y.1 = 18
          · have hb9 := hb r.2.1.toNat
            rw [hz] at hb9
            have hf' : isOfV s.2.2.1 s.2.2.2.1 4 = true := by
              have : ndV y.1 = 4 := by rw [h18]; rfl
              rw [this] at hf; simpa using hf
            have hcb : Si.clB s.2.2.2.1 = true := by
              unfold isOfV at hf'; simp at hf'; exact hf'.2
            have hcv : wrap64 (s.2.2.2.1 - 1) = Si.clV s.2.2.2.1 := by
              unfold Si.clB at hcb
              have := of_decide_eq_true hcb
              rw [wrap_in _ ⟨by omega, by omega⟩]
              unfold Si.clV
              rw [if_pos this]
            have hc1 : clsV y.1 y.2.2.2.1 s.2.2.2.1 = Si.clV s.2.2.2.1 := by unfold clsV clsV.clV'; rw [if_neg h20, if_pos h18]
            have hc2 : dclV y.1 y.2.2.2.1 s.2.2.2.1 = Si.clV s.2.2.2.1 := by unfold dclV; rw [if_pos h18, hcv]
            rw [hc1, hc2]
            unfold veC
            rw [h18]
            simp
          · have hc1 : clsV y.1 y.2.2.2.1 s.2.2.2.1 = s.2.2.2.1 := by unfold clsV; rw [if_neg h20, if_neg h18]
            rw [hc1]
            by_cases hcl : y.1 = 19 ∨ y.1 = 17 ∨ y.1 = 21
            · have hc2 : dclV y.1 y.2.2.2.1 s.2.2.2.1 = s.2.2.2.1 := by unfold dclV; rw [if_neg h18, if_pos hcl]
              rw [hc2]
              unfold veC
              by_cases h21 : y.1 = 21
              · rw [h21]; cases hlv : Si.latV s.2.2.2.1 <;> simp
              · simp [h20, h21]
            · rw [if_neg (by omega), if_neg (by unfold veC; rw [if_neg (by omega)]; decide)]
              refine opE_class _ _ _ _ _ (fun k hk => ?_) _ (Nat.le_refl _)
              unfold shl at hk ⊢
              by_cases ho : 1 ≤ y.1 ∧ y.1 ≤ 24
              · rw [if_pos ho] at hk ⊢
                exact no_class y.1.toNat (by omega) (by omega) (by omega) (by omega) (by omega) (by omega) k (by have := sh_len y.1.toNat (by omega); omega)
              · rw [if_neg ho] at hk; simp at hk
      · have hsy : symA x.rs l i = none := by unfold symA; rw [hr]; dsimp only; rw [if_neg hin]
        have hd : drE x l i (ndV y.1) = 11 := by
          unfold drE
          rw [hr, if_neg (by simp [hp]), if_neg hn, hv, if_pos (by simpa using hin)]
        rw [hd, if_pos (show (11 : Int) ≠ 0 by decide), if_pos (show (ndV y.1 ≠ 0 ∧ symA x.rs l i = none) ∨ ((some r).isSome = true ∧ ndV y.1 = 0) from Or.inl ⟨hn, hsy⟩)]
end Go.Proofs.YtbknmapkdjmcjaaGreatDoor.By
