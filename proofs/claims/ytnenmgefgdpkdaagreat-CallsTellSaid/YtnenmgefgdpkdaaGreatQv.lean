/-
 WALKS of layer 25: join.
-/
import Derived.Test.YtnenmgefgdpkdaaGreatZa
import Derived.Test.YtnenmgefgdpkdaaGreatQn
import Derived.Test.YtnenmgefgdpkdaaGreatQu
namespace Go.Proofs.YtnenmgefgdpkdaaGreat.Bo
open Go.RowKit Go.Maps
open Mem Rf
set_option linter.unusedSimpArgs false
set_option linter.unusedVariables false
theorem il_of_slv {w : World} {B : Nat} {A : Option Addr} {n c : Nat} {l : List Int} (h : SlV w B (.slice A n c) (By.ints l)) (hB : B ≤ w.heap.size) : IL w A n c l := by
 rcases h.inv with ⟨rfl, h1, h2, h3⟩ | ⟨ad, rfl, h1, h2, h3, hr⟩
 ·have hl : l = [] := by simpa [By.ints] using h3
  subst hl h1 h2
  exact Wd.nil
 ·have hl : l.length = n := by rw [h1]; simp [By.ints]
  refine ⟨hl, by omega, h3, (fun e => by cases e), fun i x hi => ⟨ad, rfl, ?_, fun j u hu => ?_⟩⟩
  ·have := (hr i (.int .i64 x) (by simp [By.ints, hi])).1
   first | exact Nat.lt_of_lt_of_le this hB | (rw [add_block] at this; exact Nat.lt_of_lt_of_le this hB)
  ·rcases j with _ | j
   ·have e : Value.int .i64 x = u := by simpa [encI] using hu
    subst e
    have := (hr i (.int .i64 x) (by simp [By.ints, hi])).2
    simpa [Addr.add] using this
   ·simp [encI] at hu
theorem flat_encI (l : List Int) : l.flatMap encI = By.ints l := by
 unfold encI By.ints
 induction l with
 | nil => rfl
 | cons x l ih => simp [List.flatMap_cons] at *; try exact ih
/-- One row of those to be read. -/
theorem gr_at {w : World} {A : Option Addr} {N c : Nat} {g : List (List Int)} {B : Nat} (h : By.Gr w B (.slice A N c) g) (hN : g.length = N) (hB : B ≤ w.heap.size) {i : Nat} (hi : i < N) :
  ∃ ad A' c', A = some ad ∧ ad.block < w.heap.size ∧ w.cell? (ad.add i) = some (.slice A' (By.rowOf g i).length c') ∧ IL w A' (By.rowOf g i).length c' (By.rowOf g i) := by
 rw [← hN] at h hi
 obtain ⟨ad, c2, e, _, _, hlt, hr⟩ := h.rows (by omega)
 injection e with e1
 obtain ⟨A', c', h1, h2⟩ := hr i hi
 exact ⟨ad, A', c', e1, by omega, h1, il_of_slv h2 hB⟩
/-- A row of what the first p parts have there. -/
def jRow (Ls : Nat → List (List Int)) (p i : Nat) : List Int := (List.range p).flatMap fun q => By.rowOf (Ls q) i
theorem jRow_succ (Ls : Nat → List (List Int)) (p i : Nat) : jRow Ls (p + 1) i = jRow Ls p i ++ By.rowOf (Ls p) i := by
 unfold jRow; rw [List.range_succ, List.flatMap_append]; simp
theorem jRow_len (Ls : Nat → List (List Int)) (b : Nat) (hb : ∀ q i, (By.rowOf (Ls q) i).length ≤ b) : ∀ p i, (jRow Ls p i).length ≤ b * p
 | 0, i => by simp [jRow]
 | p + 1, i => by
  have h := jRow_len Ls b hb p i
  have h2 := hb p i
  rw [jRow_succ, List.length_append, Nat.mul_succ]; omega
def jS (n : Nat) (Ls : Nat → List (List Int)) (p k : Nat) : List (List Int) := (List.range n).map fun i => jRow Ls (if i < k then p + 1 else p) i
theorem jS_len (n : Nat) (Ls : Nat → List (List Int)) (p k : Nat) : (jS n Ls p k).length = n := by simp [jS]
theorem jS_row {n : Nat} {Ls : Nat → List (List Int)} {p k i : Nat} (hi : i < n) : By.rowOf (jS n Ls p k) i = jRow Ls (if i < k then p + 1 else p) i := by
 unfold By.rowOf jS
 rw [List.getD_eq_getElem?_getD, List.getElem?_map, List.getElem?_range hi]; rfl
theorem jS_set {n : Nat} {Ls : Nat → List (List Int)} {p k : Nat} (hk : k < n) : (jS n Ls p k).set k (jRow Ls p k ++ By.rowOf (Ls p) k) = jS n Ls p (k + 1) := by
 apply List.ext_getElem
 ·simp [jS]
 ·intro i h1 h2
  rw [List.getElem_set]
  by_cases h : k = i
  ·subst h; rw [if_pos rfl]; simp only [jS, List.getElem_map, List.getElem_range]; rw [if_pos (by omega), jRow_succ]
  ·rw [if_neg h]
   simp only [jS, List.getElem_map, List.getElem_range]
   by_cases h3 : i < k
   ·rw [if_pos h3, if_pos (by omega)]
   ·rw [if_neg h3, if_neg (by omega)]
theorem jS_end (n : Nat) (Ls : Nat → List (List Int)) (p : Nat) : jS n Ls p n = jS n Ls (p + 1) 0 := by
 unfold jS
 refine List.map_congr_left fun i hi => ?_
 rw [if_pos (List.mem_range.1 hi), if_neg (by omega)]
theorem jS_nil (n : Nat) (Ls : Nat → List (List Int)) : jS n Ls 0 0 = List.replicate n [] := by
 unfold jS jRow
 apply List.ext_getElem
 ·simp
 ·intro i h1 h2; simp
theorem jS_all (n : Nat) (Ls : Nat → List (List Int)) (p : Nat) : jS n Ls p 0 = (List.range n).map (jRow Ls p) := by
 unfold jS
 refine List.map_congr_left fun i _ => ?_
 rw [if_neg (by omega)]
set_option maxRecDepth 100000 in
set_option maxHeartbeats 8000000 in
theorem join_any (w : World) (pb m n : Nat) (Ls : Nat → List (List Int)) (hm : 0 < m ∧ m ≤ 10) (hn : n ≤ 24) (hb : ∀ q i, (By.rowOf (Ls q) i).length ≤ 10000)
  (hp : ∀ W, Below w.heap.size w W → ∀ p, p < m → ∃ A c, W.cell? ⟨pb, p, none⟩ = some (.slice A n c) ∧ By.Gr W w.heap.size (.slice A n c) (Ls p) ∧ (Ls p).length = n) :
  Calls Tryz.prog 59 #[.slice (some ⟨pb, 0, none⟩) m m] w (RowsA w n ((List.range n).map fun a => By.tidyRow (jRow Ls m a))) := by
 obtain ⟨iNf, hiN, hzN0, hzN1, hzN2⟩ := info_split infoInt
 have hmk := By.make_rows n (by omega)
 have HP := Lib.hid hp
 have HJL := Lib.hid (fun p i (h : p ≤ m) => show (jRow Ls p i).length ≤ 100000 from by
  have := jRow_len Ls 10000 hb p i
  have : 10000 * p ≤ 10000 * 10 := Nat.mul_le_mul_left _ (by omega)
  omega)
 have HBL := Lib.hid hb
 have HMAP := Lib.hid (show ((List.range n).map (jRow Ls m)).map By.tidyRow = (List.range n).map fun a => By.tidyRow (jRow Ls m a) from by rw [List.map_map]; rfl)
 rw [← HMAP.out, ← jS_all]
 obtain ⟨pA, pc, c0, _, _⟩ := hp w (Below.refl _ _) 0 hm.1
 obtain ⟨hm0, hm1⟩ := hm
 clear HMAP hp hb
 obtain ⟨W0, hW0⟩ : ∃ W0, w.alloc (.cells (Array.replicate n (.slice none 0 0)) 42) = W0 := ⟨_, rfl⟩
 have HB0 := Lib.hid (show Below w.heap.size w W0 from by rw [← hW0]; exact alloc_ _ _)
 have HO0 := Lib.hid (show By.OwnG W0 w.heap.size (w.heap.size + 1) 42 3 (jS n Ls 0 0) from by
  rw [jS_nil]
  refine By.OwnG.start W0 n _ ?_
  rw [← hW0]; exact Blk.new _ _ _)
 have hmI : (0 : Int) < (m : Int) := by omega
 unfold RowsA
 go_enter Tryz.func59, Tryz.ntmps59
 go_wp2_with fail
 clear hW0 c0
 go_loopw [15] (fun i9 wr => ∃ p : Nat, p ≤ m ∧ i9 = .int .i64 (p : Int) ∧ Hid (By.OwnG wr w.heap.size (w.heap.size + 1) 42 3 (jS n Ls p 0)) ∧ Hid (Below w.heap.size w wr)) (fun i9 _ => m - (intOf i9).toNat)
 case atStart => exact ⟨0, Nat.zero_le _, rfl, HO0, HB0⟩
 case round =>
  obtain ⟨p, hpm, rfl, HOG, HBW⟩ := hrel
  by_cases hlt : p < m
  ·have hpI : (p : Int) < (m : Int) := by omega
   have hp0 : (0 : Int) ≤ (p : Int) := by omega
   have HLT := Lib.hid hlt
   obtain ⟨A, c, cp, _, hLn⟩ := HP.out wr HBW.out p hlt
   have HG := Lib.hid (fun W (hb : Below w.heap.size w W) => show By.Gr W w.heap.size (.slice A n c) (Ls p) from by
    obtain ⟨A2, c2, cp2, hg2, _⟩ := HP.out W hb p hlt
    obtain ⟨A3, c3, cp3, hg3, _⟩ := HP.out w (Below.refl _ _) p hlt
    have e1 := (hb.cell (p := ⟨pb, p, none⟩) (World.block_lt_of_cell? _ _ cp3)).trans cp3
    have e2 := (HBW.out.cell (p := ⟨pb, p, none⟩) (World.block_lt_of_cell? _ _ cp3)).trans cp3
    rw [cp2] at e1
    rw [cp] at e2
    rw [Option.some.inj (e2.trans e1.symm)]; exact hg2)
   have HLN := Lib.hid hLn
   clear hLn
   go_wp2_with fail
   clear cp
   go_loopw [21] (fun i9 wr => ∃ k : Nat, k ≤ n ∧ i9 = .int .i64 (k : Int) ∧ Hid (By.OwnG wr w.heap.size (w.heap.size + 1) 42 3 (jS n Ls p k)) ∧ Hid (Below w.heap.size w wr)) (fun i9 _ => n - (intOf i9).toNat)
   case atStart => exact ⟨0, Nat.zero_le _, rfl, HOG, HBW⟩
   case round =>
    obtain ⟨k, hk, rfl, HOG, HBW⟩ := hrel
    by_cases hkl : k < n
    ·have hkI : (k : Int) < (n : Int) := by omega
     have hk0 : (0 : Int) ≤ (k : Int) := by omega
     have HKL := Lib.hid hkl
     obtain ⟨ad, A', c', rfl, hz1, z0, hil⟩ := gr_at (HG.out wr HBW.out) HLN.out HBW.out.size hkl
     have hlR := HBL.out p k
     have hlX := HJL.out p k (by omega)
     have HNX := Lib.hid (jS_set (Ls := Ls) (p := p) hkl)
     have HO3 := HOG.out
     obtain ⟨rv, hcell, hfr, hone, hrow, ⟨RA, RC, hrv⟩, hput⟩ := HO3.at_ (by omega) (a := k) (by rw [jS_len]; exact hkl)
     rw [jS_row hkl, if_neg (by omega)] at hrow hrv
     have HP9 := Lib.hid hput
     obtain ⟨XL, hXL⟩ : ∃ x, jRow Ls p k = x := ⟨_, rfl⟩
     obtain ⟨YL, hYL⟩ : ∃ x, By.rowOf (Ls p) k = x := ⟨_, rfl⟩
     rw [hXL] at hrow hrv hlX HNX
     rw [hYL] at hlR HNX z0 hil
     clear hXL hYL
     have hlt3 := HO3.lt
     have HRB := Lib.hid (show some w.heap.size ≠ rv.ownBlock from fun e => by have := (hrow.lt _ e.symm).1; omega)
     have HBS := Lib.hid (show ∀ r, rv.ownBlock = some r → w.heap.size + 1 ≤ r from fun r e => (hrow.lt r e).1)
     have HL1 : XL.length + YL.length ≤ maxLen := by unfold maxLen; omega
     have HL2 : (XL.length + YL.length) * 8 ≤ 140737488355328 := by omega
     have HEnd := Lib.hid (show ∀ (rA : Option Addr) (rc : Nat) (w' : World), w'.ownsRow (w.heap.size + 1) 3 1 (.slice rA (XL.length + YL.length) rc) (XL.length + YL.length) (By.ints XL ++ YL.flatMap encI) →
       wr.grownBy w' rv.ownBlock →
       ((Value.slice rA (XL.length + YL.length) rc).ownBlock = rv.ownBlock ∨ (Value.slice rA (XL.length + YL.length) rc).ownBlock = some wr.heap.size) →
       By.OwnG (w'.setCell ⟨w.heap.size, k, none⟩ (.slice rA (XL.length + YL.length) rc)) w.heap.size (w.heap.size + 1) 42 3 (jS n Ls p (k + 1)) ∧
       Below w.heap.size w (w'.setCell ⟨w.heap.size, k, none⟩ (.slice rA (XL.length + YL.length) rc)) from by
      intro rA rc w' h2 h3 h4
      refine ⟨?_, ?_⟩
      ·have h5 := HP9.out (.slice rA (XL.length + YL.length) rc) (XL ++ YL) w' rfl (by rw [flat_encI] at h2; rw [List.length_append]; simpa [By.ints] using h2)
        (by
         rcases h4 with h4 | h4
         ·exact .inr (.inl h4)
         ·exact .inr (.inr ⟨_, h4, Nat.le_refl _⟩))
        (fun k hk hlt hne => h3.block k hlt (fun e => hne e.symm))
       rwa [HNX.out] at h5
      ·refine (HBW.out.trans ?_).setCell (p := ⟨w.heap.size, k, none⟩) (Nat.le_refl _) _
       exact (Below.refl w.heap.size wr).grown h3 (by omega) fun r e => by have := HBS.out r e; omega)
     subst hrv
     clear hput hone HO3
     go_wp2_with (at_builtin; go_loud (refine list_append_wd (enc := encI) _ rfl _ _ 42 rfl (w.heap.size + 1) 3 iNf (.int .i64 0) 1 8 Tryz.underlying42 hiN hzN0 hzN1 hzN2 rfl (by omega) (fun _ => rfl) encI_one _ _ _ rfl hrow A' YL.length c' YL rfl hil HL1 HL2 (by omega) ?_); intro v' w' h2 h3 h4; obtain ⟨rA, rc, rfl⟩ := By.own_form h2; have hrb' := h3.cell hcell HRB.out; have hfr' : w'.frozen? ⟨w.heap.size, k, none⟩ = false := (World.frozen?_of_block (h3.block w.heap.size (World.block_lt_of_cell? _ _ hcell) HRB.out)).trans hfr; have h5 := HEnd.out _ _ _ h2 h3 h4; have H51 := Lib.hid h5.1; have H52 := Lib.hid h5.2; clear h2 h3 h4 h5 hcell hfr hrow)
     go_roundw
     case rel => exact ⟨k + 1, by have := HKL.out; omega, by go_num, H51, H52⟩
     case measure => have := HKL.out; simp [intOf]; omega
    ·obtain rfl : n = k := by omega
     have HO9 := Lib.hid (show By.OwnG wr w.heap.size (w.heap.size + 1) 42 3 (jS n Ls (p + 1) 0) from by
      rw [← jS_end]; exact HOG.out)
     go_wp2_with fail
     go_roundw
     case rel => exact ⟨p + 1, by have := HLT.out; omega, by go_num, HO9, HBW⟩
     case measure => have := HLT.out; simp [intOf]; omega
  ·obtain rfl : m = p := by omega
   have hct := By.ctidy_any wr w.heap.size (w.heap.size + 1) (jS n Ls m 0) HOG.out (by omega) (by rw [jS_len]; omega) (fun i => by
    by_cases hi : i < n
    ·rw [jS_row hi, if_neg (by omega)]; have := HJL.out m i (Nat.le_refl _); omega
    ·unfold By.rowOf
     rw [List.getD_eq_getElem?_getD, List.getElem?_eq_none (by rw [jS_len]; omega)]; simp)
   rw [jS_len] at hct
   have HCT := Lib.hid hct
   have HLW := Lib.hid HOG.out.lt
   clear hct
   go_wp2_with (go_at_call 99; refine HCT.out.mono ?_; rintro e w2 ⟨rfl, hO2, hK2⟩; have HO2 := Lib.hid hO2; have HK2 := Lib.hid hK2; clear hO2 hK2)
   go_ret
   exact ⟨_, _, rfl, HO2.out, by omega, by omega, HBW.out.trans (HK2.out.below HBW.out.size (fun k hk => by omega))⟩
end Go.Proofs.YtnenmgefgdpkdaaGreat.Bo
