/-
 Qc2 Qd2
-/
import Derived.Test.YtdaimeaofgbfpaaGreatZa2
import Derived.Test.YtdaimeaofgbfpaaGreatQb2
set_option linter.unusedSimpArgs false
set_option linter.unusedVariables false
namespace Go.Proofs.YtdaimeaofgbfpaaGreat.Bo
open Go.RowKit
open Mem Rf
theorem fst5 (E : Nat → Int) : fstE E 5 = if E 0 = 0 then (if E 1 = 0 then (if E 2 = 0 then (if E 3 = 0 then E 4 else E 3) else E 2) else E 1) else E 0 := by
 unfold fstE
 rw [show List.range 5 = [0, 1, 2, 3, 4] from rfl]
 simp only [List.find?]
 by_cases h0 : E 0 = 0
 ·by_cases h1 : E 1 = 0
  ·by_cases h2 : E 2 = 0
   ·by_cases h3 : E 3 = 0
    ·by_cases h4 : E 4 = 0
     ·simp [h0, h1, h2, h3, h4]
     ·simp [h0, h1, h2, h3, h4, bne_iff_ne.2 h4]
    ·simp [h0, h1, h2, h3, bne_iff_ne.2 h3]
   ·simp [h0, h1, h2, bne_iff_ne.2 h2]
  ·simp [h0, h1, bne_iff_ne.2 h1]
 ·simp [h0, bne_iff_ne.2 h0]
theorem symE_is (o : Oj) (ne : ByteArray → Int) (ks kt : Int → Bool) (i : Nat) : symE o ne ks kt i = if ne (syAt o.l i).1 = 0 then (if kindE ks kt (syAt o.l i) = 0 then (if newT o.l i = true then 12 else (if defE o i = 0 then locE (syAt o.l i) else defE o i)) else kindE ks kt (syAt o.l i)) else ne (syAt o.l i).1 := by
 unfold symE
 rw [fst5]
 show (if ne (syAt o.l i).1 = 0 then (if kindE ks kt (syAt o.l i) = 0 then (if (if newT o.l i = true then (12 : Int) else 0) = 0 then (if defE o i = 0 then locE (syAt o.l i) else defE o i) else (if newT o.l i = true then 12 else 0)) else kindE ks kt (syAt o.l i)) else ne (syAt o.l i).1) = _
 cases newT o.l i <;> simp
theorem defn_le (l : List Sy) (s : Int) (j : Nat) : defn l s j ≤ j := by
 unfold defn
 exact Nat.le_trans (List.length_filter_le _ _) (by simp)
theorem newT_yes {l : List Sy} {i k : Nat} (hk : k < i) (h1 : ∀ m, m < k → nmT (syAt l i).1 (syAt l m) = false) (h2 : nmT (syAt l i).1 (syAt l k) = true) : newT l i = true := by
 unfold newT; rw [find_at hk h1 h2]; rfl
theorem newT_no {l : List Sy} {i : Nat} (h1 : ∀ m, m < i → nmT (syAt l i).1 (syAt l m) = false) : newT l i = false := by
 unfold newT; rw [find_no h1]; rfl
theorem upto_more {p : Nat → Prop} {k : Nat} (h : ∀ m, m < k → p m) (hk : p k) : ∀ m, m < k + 1 → p m := fun m hm => by
 rcases Nat.lt_succ_iff_lt_or_eq.1 hm with h' | h'
 ·exact h m h'
 ·rw [h']; exact hk
section
variable {w : World} {o : Oj} {ne : ByteArray → Int} {ks kt : Int → Bool} {vf rf de : Nat → Int}
set_option maxRecDepth 100000 in
set_option maxHeartbeats 8000000 in
theorem dsymbol (h : Dx w o ne ks kt vf rf de) (i : Nat) (hi : i < o.n) :
  Calls Tryz.prog 72 #[ojV o, .int .i64 (i : Int)] w fun e w' => e = .returned (.int .i64 (symE o ne ks kt i)) ∧ Below w.heap.size w w' := by
 have hf := h.few
 have HNM := Hd (fun W (hb : Below w.heap.size w W) => h.name W hb i hi)
 have HIS := Hd (fun W (hb : Below w.heap.size w W) => h.is W hb (syAt o.l i).2.2.2.1)
 have HTX := Hd (fun W (hb : Below w.heap.size w W) => h.text W hb i hi)
 have HS := Hd (fun W (hb : Below w.heap.size w W) k (hk : k < o.n) => (h.mem.on hb).sy.at_ hk)
 have HV := Hd (symE_is o ne ks kt i)
 have HNY := Hd (fun k hk h1 h2 => newT_yes (l := o.l) (i := i) (k := k) hk h1 h2)
 have HNN := Hd (fun h1 => newT_no (l := o.l) (i := i) h1)
 clear h
 obtain ⟨A, n, c, l, fA, fn, fc, fl, dA, dn, dc, dl⟩ := o
 unfold defE kindE locE at HV
 unfold ojV
 dsimp only at HNM HIS HTX HS HV HNY HNN hf hi ⊢
 obtain ⟨v, hv⟩ : ∃ v, symE ⟨A, n, c, l, fA, fn, fc, fl, dA, dn, dc, dl⟩ ne ks kt i = v := ⟨_, rfl⟩
 rw [hv] at HV ⊢
 clear hv
 obtain ⟨ad, rfl, hbk, s0, s1, s2, s3, s4⟩ := HS.out w (Below.refl _ _) i hi
 have hsz := World.block_lt_of_cell? w _ s0
 obtain ⟨⟨y0, y1, y2, y3, y4⟩, hy⟩ : ∃ y, syAt l i = y := ⟨_, rfl⟩
 rw [hy] at HNM HIS HTX HV s0 s1 s2 s3 s4 HNY HNN
 dsimp only at HNM HIS HTX HV s0 s1 s2 s3 s4 HNY HNN
 clear hy
 obtain ⟨q, hq⟩ : ∃ q, ne y0 = q := ⟨_, rfl⟩
 rw [hq] at HNM HV
 obtain ⟨bs, hbs⟩ : ∃ b, ks y3 = b := ⟨_, rfl⟩
 rw [hbs] at HIS HV
 obtain ⟨bt, hbt⟩ : ∃ b, kt y3 = b := ⟨_, rfl⟩
 rw [hbt] at HTX HV
 obtain ⟨nt, hnt⟩ : ∃ b, newT l i = b := ⟨_, rfl⟩
 rw [hnt] at HV HNY HNN
 clear hq hbs hbt hnt
 have hiI : (i : Int) < (n : Int) := by omega
 have hi0 : (0 : Int) ≤ (i : Int) := by omega
 have hn1 : n ≤ 1000 := hf.1
 have hf1 : fn ≤ 1000 := hf.2.1
 have hd1 : dn ≤ 1000 := hf.2.2
 by_cases q0 : q = 0
 ·have q0' : (q != 0) = false := by simp [q0]
  by_cases k1 : y2 = 1
  ·have k1' : (y2 == 1) = true := by simp [k1]
   have k1n : (y2 != 1) = false := by simp [k1]
   have k2' : (y2 == 2) = false := by simp [k1]
   have k2n : (y2 != 2) = true := by simp [k1]
   cases bs with
   | false =>
    have HR := Hd (show v = 8 by rw [HV.out, if_pos q0, if_neg (by simp [k1])]; simp [k1])
    clear q0 k1
    go_enter Tryz.func72, Tryz.ntmps72
    go_wp2_with (go_at_call 116; refine (HNM.out _ (to_ (alloc_ w _) (alloc_ _ _))).mono ?_; rintro e w2 ⟨rfl, b2⟩; obtain ⟨hb2, c0, c1, c2, s0, s1, s2, s3, s4⟩ := bx35 b2; have hsz2 : w.heap.size + 1 < w2.heap.size := World.block_lt_of_cell? w2 _ s0; have HB2 := Hd hb2; clear b2 hb2; go_wp2_with (go_at_call 117; refine (HIS.out _ HB2.out).mono ?_; rintro e w3 ⟨rfl, b3⟩; replace c0 := cell_on c0 b3; replace c1 := cell_on c1 b3; replace c2 := cell_on c2 b3; replace s0 := cell_on s0 b3; replace s1 := cell_on s1 b3; replace s2 := cell_on s2 b3; replace s3 := cell_on s3 b3; replace s4 := cell_on s4 b3; have HB3 := Hd (to_ HB2.out b3); clear b3))
    go_ret
    exact ⟨by rw [HR.out]; rfl, HB3.out⟩
   | true =>
    have HV2 := Hd (show v = if nt = true then 12 else (if (if y4 = -1 then (0 : Int) else if y4 = (defn l y2 i : Int) ∧ y4 < (fn : Int) then 0 else 9) = 0 then (if y1 = true ∧ y4 = -1 then 13 else 0) else (if y4 = -1 then (0 : Int) else if y4 = (defn l y2 i : Int) ∧ y4 < (fn : Int) then 0 else 9)) by
     rw [HV.out, if_pos q0, if_pos (by simp [k1])]; unfold mostO; rw [if_pos k1])
    clear q0 k1
    go_enter Tryz.func72, Tryz.ntmps72
    go_wp2_with (go_at_call 116; refine (HNM.out _ (to_ (alloc_ w _) (alloc_ _ _))).mono ?_; rintro e w2 ⟨rfl, b2⟩; obtain ⟨hb2, c0, c1, c2, s0, s1, s2, s3, s4⟩ := bx35 b2; have hsz2 : w.heap.size + 1 < w2.heap.size := World.block_lt_of_cell? w2 _ s0; have HB2 := Hd hb2; clear b2 hb2; go_wp2_with (go_at_call 117; refine (HIS.out _ HB2.out).mono ?_; rintro e w3 ⟨rfl, b3⟩; replace c0 := cell_on c0 b3; replace c1 := cell_on c1 b3; replace c2 := cell_on c2 b3; replace s0 := cell_on s0 b3; replace s1 := cell_on s1 b3; replace s2 := cell_on s2 b3; replace s3 := cell_on s3 b3; replace s4 := cell_on s4 b3; have HB3 := Hd (to_ HB2.out b3); have HCL := Hd (fun W (hb : Below w3.heap.size w3 W) => (⟨cell_on c0 hb, cell_on c1 hb, cell_on c2 hb, cell_on s0 hb, cell_on s1 hb, cell_on s2 hb, cell_on s3 hb, cell_on s4 hb⟩ : W.cell? ⟨w.heap.size, 0, none⟩ = _ ∧ W.cell? ⟨w.heap.size, 1, none⟩ = _ ∧ W.cell? ⟨w.heap.size, 2, none⟩ = _ ∧ W.cell? ⟨w.heap.size + 1, 0, none⟩ = _ ∧ W.cell? ⟨w.heap.size + 1, 1, none⟩ = _ ∧ W.cell? ⟨w.heap.size + 1, 2, none⟩ = _ ∧ W.cell? ⟨w.heap.size + 1, 3, none⟩ = _ ∧ W.cell? ⟨w.heap.size + 1, 4, none⟩ = _)); clear b3))
    clear c0 c1 c2 s0 s1 s2 s3 s4
    have HX3 := Hd (fun W (hb : Below w3.heap.size w3 W) => HCL.out W hb)
    have HTO := Hd (fun W (hb : Below w3.heap.size w3 W) => to_ HB3.out hb)
    clear hsz2
    go_loopw [7] (fun i9 wr => ∃ k : Nat, k ≤ i ∧ i9 = .int .i64 (k : Int) ∧ Hid (∀ m, m < k → nmT y0 (syAt l m) = false) ∧ Hid (Below w3.heap.size w3 wr)) (fun i9 _ => i - (intOf i9).toNat)
    case atStart => exact ⟨0, Nat.zero_le _, rfl, Hd (fun m hm => by omega), Hd (Below.refl _ _)⟩
    case round =>
     obtain ⟨k, hk, rfl, HNO, HBE⟩ := hrel
     obtain ⟨c0, c1, c2, s0, s1, s2, s3, s4⟩ := HX3.out wr HBE.out
     by_cases hlt : k < i
     ·have hkI : (k : Int) < (i : Int) := by omega
      have hkn : (k : Int) < (n : Int) := by omega
      have hk0 : (0 : Int) ≤ (k : Int) := by omega
      obtain ⟨ad9, e9, _, z0, _⟩ := HS.out wr (HTO.out _ HBE.out) k (by omega)
      obtain rfl := Option.some.inj e9
      clear e9
      have HY := Hd (HNY.out k hlt HNO.out)
      have HM := Hd (fun e => upto_more (p := fun m => nmT y0 (syAt l m) = false) HNO.out e)
      unfold nmT at HY HM
      obtain ⟨x0, hx0⟩ : ∃ x, (syAt l k).1 = x := ⟨_, rfl⟩
      rw [hx0] at z0 HY HM
      clear hx0
      obtain ⟨b, hb⟩ : ∃ b, (ByteArray.toList x0 == ByteArray.toList y0) = b := ⟨_, rfl⟩
      have HB9 := Hd hb
      rw [hb] at HY HM
      cases b with
      | true =>
       have HR := Hd (show v = 12 by rw [HV2.out, if_pos (HY.out rfl)])
       go_wp2_with fail
       go_quiet (fail)
       go_wp2_with fail
       go_ret
       exact ⟨by rw [HR.out]; rfl, HTO.out _ (below_drewN HBE.out _)⟩
      | false =>
       have HR := Hd (HM.out rfl)
       go_wp2_with fail
       go_quiet (fail)
       go_wp2_with fail
       go_roundw
       case rel => exact ⟨k + 1, by omega, by go_num, HR, Hd (below_drewN HBE.out _)⟩
       case measure => simp [intOf]; omega
     ·obtain rfl : k = i := by omega
      have HV3 := Hd (show v = if (if y4 = -1 then (0 : Int) else if y4 = (defn l y2 k : Int) ∧ y4 < (fn : Int) then 0 else 9) = 0 then (if y1 = true ∧ y4 = -1 then 13 else 0) else (if y4 = -1 then (0 : Int) else if y4 = (defn l y2 k : Int) ∧ y4 < (fn : Int) then 0 else 9) by rw [HV2.out, if_neg (by rw [HNN.out HNO.out]; simp)])
      clear HNO HV2 HNY HNN
      go_wp2_with fail
      obtain ⟨W5, hW5⟩ : ∃ W5, W5 = wr := ⟨_, rfl⟩
      subst hW5
      have HX5 := Hd (fun W (hb : Below W5.heap.size W5 W) => HX3.out W (to_ HBE.out hb))
      have HT5 := Hd (fun W (hb : Below W5.heap.size W5 W) => HTO.out W (to_ HBE.out hb))
      clear c0 c1 c2 s0 s1 s2 s3 s4
      go_loopw [9, 10] (fun v9 i9 wr => ∃ j : Nat, j ≤ k ∧ i9 = .int .i64 (j : Int) ∧ v9 = .int .i64 (defn l y2 j : Int) ∧ Hid (Below W5.heap.size W5 wr)) (fun _ i9 _ => k - (intOf i9).toNat)
      case atStart => exact ⟨0, Nat.zero_le _, rfl, rfl, Hd (Below.refl _ _)⟩
      case round =>
       obtain ⟨j, hj, rfl, rfl, HBE⟩ := hrel
       obtain ⟨c0, c1, c2, s0, s1, s2, s3, s4⟩ := HX5.out wr HBE.out
       have hdl := defn_le l y2 j
       have HD := Hd (defn_succ l y2 j)
       by_cases hlt2 : j < k
       ·have hjI : (j : Int) < (k : Int) := by omega
        have hjn : (j : Int) < (n : Int) := by omega
        have hj0 : (0 : Int) ≤ (j : Int) := by omega
        obtain ⟨ad9, e9, _, z0, z1, z2, z3, z4⟩ := HS.out wr (HT5.out _ HBE.out) j (by omega)
        obtain rfl := Option.some.inj e9
        obtain ⟨⟨x0, x1, x2, x3, x4⟩, hx⟩ : ∃ x, syAt l j = x := ⟨_, rfl⟩
        rw [hx] at z0 z1 z2 z3 z4 HD
        dsimp only at z0 z1 z2 z3 z4 HD
        obtain ⟨d, hd⟩ : ∃ d, defn l y2 j = d := ⟨_, rfl⟩
        rw [hd] at HD hdl ⊢
        clear e9 hx hd
        by_cases h2 : x2 = y2
        ·have h2' : (x2 == y2) = true := by simp [h2]
         by_cases h4 : x4 = -1
         ·have h4' : (x4 != -1) = false := by simp [h4]
          have HG := Hd (show defn l y2 (j + 1) = d by rw [HD.out, if_neg (by simp [h4])]; rfl)
          clear h2 h4
          go_wp2_with fail
          go_quiet (fail)
          go_wp2_with fail
          go_roundw
          case rel => exact ⟨j + 1, by omega, by go_num, by rw [HG.out], Hd (below_drewN HBE.out _)⟩
          case measure => simp [intOf]; omega
         ·have h4' : (x4 != -1) = true := by simp [h4]
          have HG := Hd (show defn l y2 (j + 1) = d + 1 by rw [HD.out, if_pos ⟨h2, h4⟩])
          clear h2 h4
          go_wp2_with fail
          go_quiet (fail)
          go_wp2_with fail
          go_roundw
          case rel => exact ⟨j + 1, by omega, by go_num, by rw [HG.out]; go_num, Hd (below_drewN HBE.out _)⟩
          case measure => simp [intOf]; omega
        ·have h2' : (x2 == y2) = false := by simp [h2]
         have HG := Hd (show defn l y2 (j + 1) = d by rw [HD.out, if_neg (fun x => h2 x.1)]; rfl)
         clear h2
         go_wp2_with fail
         go_quiet (fail)
         go_wp2_with fail
         go_roundw
         case rel => exact ⟨j + 1, by omega, by go_num, by rw [HG.out], Hd (below_drewN HBE.out _)⟩
         case measure => simp [intOf]; omega
       ·obtain rfl : j = k := by omega
        obtain ⟨d, hd⟩ : ∃ d, defn l y2 j = d := ⟨_, rfl⟩
        rw [hd] at HV3 ⊢
        clear hd HD hdl
        by_cases a1 : y4 = -1
        ·have a1' : (y4 != -1) = false := by simp [a1]
         have a1'' : (y4 == -1) = true := by simp [a1]
         cases y1 with
         | true =>
          have HR := Hd (show v = 13 by rw [HV3.out]; simp [a1])
          clear a1
          go_wp2_with fail
          go_ret
          exact ⟨by rw [HR.out]; rfl, HT5.out _ HBE.out⟩
         | false =>
          have HR := Hd (show v = 0 by rw [HV3.out]; simp [a1])
          clear a1
          go_wp2_with fail
          go_ret
          exact ⟨by rw [HR.out]; rfl, HT5.out _ HBE.out⟩
        ·have a1' : (y4 != -1) = true := by simp [a1]
         have a1'' : (y4 == -1) = false := by simp [a1]
         by_cases a2 : y4 = (d : Int)
         ·have a2' : (y4 != (d : Int)) = false := by simp [a2]
          by_cases a3 : y4 < (fn : Int)
          ·have a3' : ¬ (fn : Int) ≤ y4 := by omega
           have HR := Hd (show v = 0 by
            have e9 : (if y4 = (d : Int) ∧ y4 < (fn : Int) then (0 : Int) else 9) = 0 := if_pos ⟨a2, a3⟩
            rw [HV3.out, if_neg a1, e9]; simp [a1])
           clear a1 a2 a3
           cases y1 with
           | true =>
            go_wp2_with fail
            go_ret
            exact ⟨by rw [HR.out]; rfl, HT5.out _ HBE.out⟩
           | false =>
            go_wp2_with fail
            go_ret
            exact ⟨by rw [HR.out]; rfl, HT5.out _ HBE.out⟩
          ·have a3' : (fn : Int) ≤ y4 := by omega
           have HR := Hd (show v = 9 by
            have e9 : (if y4 = (d : Int) ∧ y4 < (fn : Int) then (0 : Int) else 9) = 9 := if_neg (fun x => a3 x.2)
            rw [HV3.out, if_neg a1, e9]; simp)
           clear a1 a2 a3
           go_wp2_with fail
           go_ret
           exact ⟨by rw [HR.out]; rfl, HT5.out _ HBE.out⟩
         ·have a2' : (y4 != (d : Int)) = true := by simp [a2]
          have HR := Hd (show v = 9 by
           have e9 : (if y4 = (d : Int) ∧ y4 < (fn : Int) then (0 : Int) else 9) = 9 := if_neg (fun x => a2 x.1)
           rw [HV3.out, if_neg a1, e9]; simp)
          clear a1 a2
          go_wp2_with fail
          go_ret
          exact ⟨by rw [HR.out]; rfl, HT5.out _ HBE.out⟩
  ·by_cases k2 : y2 = 2
   ·have k1' : (y2 == 1) = false := by simp [k1]
    have k1n : (y2 != 1) = true := by simp [k1]
    have k2' : (y2 == 2) = true := by simp [k2]
    have k2n : (y2 != 2) = false := by simp [k2]
    cases bt with
    | false =>
     have HR := Hd (show v = 8 by rw [HV.out, if_pos q0, if_neg (by simp [k1])]; simp [k1])
     clear q0 k1 k2
     go_enter Tryz.func72, Tryz.ntmps72
     go_wp2_with (go_at_call 116; refine (HNM.out _ (to_ (alloc_ w _) (alloc_ _ _))).mono ?_; rintro e w2 ⟨rfl, b2⟩; obtain ⟨hb2, c0, c1, c2, s0, s1, s2, s3, s4⟩ := bx35 b2; have hsz2 : w.heap.size + 1 < w2.heap.size := World.block_lt_of_cell? w2 _ s0; have HB2 := Hd hb2; clear b2 hb2; go_wp2_with (go_at_call 118; refine (HTX.out _ HB2.out).mono ?_; rintro e w3 ⟨⟨yt, rfl, hte⟩, b3⟩; replace c0 := cell_on c0 b3; replace c1 := cell_on c1 b3; replace c2 := cell_on c2 b3; replace s0 := cell_on s0 b3; replace s1 := cell_on s1 b3; replace s2 := cell_on s2 b3; replace s3 := cell_on s3 b3; replace s4 := cell_on s4 b3; have HB3 := Hd (to_ HB2.out b3); clear b3))
     go_ret
     exact ⟨by rw [HR.out]; rfl, HB3.out⟩
    | true =>
     have HV2 := Hd (show v = if nt = true then 12 else (if (if y4 = -1 then (0 : Int) else if y4 = (defn l y2 i : Int) ∧ y4 < (dn : Int) then 0 else 9) = 0 then (if y1 = true ∧ y4 = -1 then 13 else 0) else (if y4 = -1 then (0 : Int) else if y4 = (defn l y2 i : Int) ∧ y4 < (dn : Int) then 0 else 9)) by
      rw [HV.out, if_pos q0, if_pos (by simp [k2])]; unfold mostO; rw [if_neg k1])
     clear q0 k1 k2
     go_enter Tryz.func72, Tryz.ntmps72
     go_wp2_with (go_at_call 116; refine (HNM.out _ (to_ (alloc_ w _) (alloc_ _ _))).mono ?_; rintro e w2 ⟨rfl, b2⟩; obtain ⟨hb2, c0, c1, c2, s0, s1, s2, s3, s4⟩ := bx35 b2; have hsz2 : w.heap.size + 1 < w2.heap.size := World.block_lt_of_cell? w2 _ s0; have HB2 := Hd hb2; clear b2 hb2; go_wp2_with (go_at_call 118; refine (HTX.out _ HB2.out).mono ?_; rintro e w3 ⟨⟨yt, rfl, hte⟩, b3⟩; replace c0 := cell_on c0 b3; replace c1 := cell_on c1 b3; replace c2 := cell_on c2 b3; replace s0 := cell_on s0 b3; replace s1 := cell_on s1 b3; replace s2 := cell_on s2 b3; replace s3 := cell_on s3 b3; replace s4 := cell_on s4 b3; have HB3 := Hd (to_ HB2.out b3); have HCL := Hd (fun W (hb : Below w3.heap.size w3 W) => (⟨cell_on c0 hb, cell_on c1 hb, cell_on c2 hb, cell_on s0 hb, cell_on s1 hb, cell_on s2 hb, cell_on s3 hb, cell_on s4 hb⟩ : W.cell? ⟨w.heap.size, 0, none⟩ = _ ∧ W.cell? ⟨w.heap.size, 1, none⟩ = _ ∧ W.cell? ⟨w.heap.size, 2, none⟩ = _ ∧ W.cell? ⟨w.heap.size + 1, 0, none⟩ = _ ∧ W.cell? ⟨w.heap.size + 1, 1, none⟩ = _ ∧ W.cell? ⟨w.heap.size + 1, 2, none⟩ = _ ∧ W.cell? ⟨w.heap.size + 1, 3, none⟩ = _ ∧ W.cell? ⟨w.heap.size + 1, 4, none⟩ = _)); clear b3))
     clear c0 c1 c2 s0 s1 s2 s3 s4
     have HX3 := Hd (fun W (hb : Below w3.heap.size w3 W) => HCL.out W hb)
     have HTO := Hd (fun W (hb : Below w3.heap.size w3 W) => to_ HB3.out hb)
     clear hsz2
     go_loopw [7] (fun i9 wr => ∃ k : Nat, k ≤ i ∧ i9 = .int .i64 (k : Int) ∧ Hid (∀ m, m < k → nmT y0 (syAt l m) = false) ∧ Hid (Below w3.heap.size w3 wr)) (fun i9 _ => i - (intOf i9).toNat)
     case atStart => exact ⟨0, Nat.zero_le _, rfl, Hd (fun m hm => by omega), Hd (Below.refl _ _)⟩
     case round =>
      obtain ⟨k, hk, rfl, HNO, HBE⟩ := hrel
      obtain ⟨c0, c1, c2, s0, s1, s2, s3, s4⟩ := HX3.out wr HBE.out
      by_cases hlt : k < i
      ·have hkI : (k : Int) < (i : Int) := by omega
       have hkn : (k : Int) < (n : Int) := by omega
       have hk0 : (0 : Int) ≤ (k : Int) := by omega
       obtain ⟨ad9, e9, _, z0, _⟩ := HS.out wr (HTO.out _ HBE.out) k (by omega)
       obtain rfl := Option.some.inj e9
       clear e9
       have HY := Hd (HNY.out k hlt HNO.out)
       have HM := Hd (fun e => upto_more (p := fun m => nmT y0 (syAt l m) = false) HNO.out e)
       unfold nmT at HY HM
       obtain ⟨x0, hx0⟩ : ∃ x, (syAt l k).1 = x := ⟨_, rfl⟩
       rw [hx0] at z0 HY HM
       clear hx0
       obtain ⟨b, hb⟩ : ∃ b, (ByteArray.toList x0 == ByteArray.toList y0) = b := ⟨_, rfl⟩
       have HB9 := Hd hb
       rw [hb] at HY HM
       cases b with
       | true =>
        have HR := Hd (show v = 12 by rw [HV2.out, if_pos (HY.out rfl)])
        go_wp2_with fail
        go_quiet (fail)
        go_wp2_with fail
        go_ret
        exact ⟨by rw [HR.out]; rfl, HTO.out _ (below_drewN HBE.out _)⟩
       | false =>
        have HR := Hd (HM.out rfl)
        go_wp2_with fail
        go_quiet (fail)
        go_wp2_with fail
        go_roundw
        case rel => exact ⟨k + 1, by omega, by go_num, HR, Hd (below_drewN HBE.out _)⟩
        case measure => simp [intOf]; omega
      ·obtain rfl : k = i := by omega
       have HV3 := Hd (show v = if (if y4 = -1 then (0 : Int) else if y4 = (defn l y2 k : Int) ∧ y4 < (dn : Int) then 0 else 9) = 0 then (if y1 = true ∧ y4 = -1 then 13 else 0) else (if y4 = -1 then (0 : Int) else if y4 = (defn l y2 k : Int) ∧ y4 < (dn : Int) then 0 else 9) by rw [HV2.out, if_neg (by rw [HNN.out HNO.out]; simp)])
       clear HNO HV2 HNY HNN
       go_wp2_with fail
       obtain ⟨W5, hW5⟩ : ∃ W5, W5 = wr := ⟨_, rfl⟩
       subst hW5
       have HX5 := Hd (fun W (hb : Below W5.heap.size W5 W) => HX3.out W (to_ HBE.out hb))
       have HT5 := Hd (fun W (hb : Below W5.heap.size W5 W) => HTO.out W (to_ HBE.out hb))
       clear c0 c1 c2 s0 s1 s2 s3 s4
       go_loopw [9, 10] (fun v9 i9 wr => ∃ j : Nat, j ≤ k ∧ i9 = .int .i64 (j : Int) ∧ v9 = .int .i64 (defn l y2 j : Int) ∧ Hid (Below W5.heap.size W5 wr)) (fun _ i9 _ => k - (intOf i9).toNat)
       case atStart => exact ⟨0, Nat.zero_le _, rfl, rfl, Hd (Below.refl _ _)⟩
       case round =>
        obtain ⟨j, hj, rfl, rfl, HBE⟩ := hrel
        obtain ⟨c0, c1, c2, s0, s1, s2, s3, s4⟩ := HX5.out wr HBE.out
        have hdl := defn_le l y2 j
        have HD := Hd (defn_succ l y2 j)
        by_cases hlt2 : j < k
        ·have hjI : (j : Int) < (k : Int) := by omega
         have hjn : (j : Int) < (n : Int) := by omega
         have hj0 : (0 : Int) ≤ (j : Int) := by omega
         obtain ⟨ad9, e9, _, z0, z1, z2, z3, z4⟩ := HS.out wr (HT5.out _ HBE.out) j (by omega)
         obtain rfl := Option.some.inj e9
         obtain ⟨⟨x0, x1, x2, x3, x4⟩, hx⟩ : ∃ x, syAt l j = x := ⟨_, rfl⟩
         rw [hx] at z0 z1 z2 z3 z4 HD
         dsimp only at z0 z1 z2 z3 z4 HD
         obtain ⟨d, hd⟩ : ∃ d, defn l y2 j = d := ⟨_, rfl⟩
         rw [hd] at HD hdl ⊢
         clear e9 hx hd
         by_cases h2 : x2 = y2
         ·have h2' : (x2 == y2) = true := by simp [h2]
          by_cases h4 : x4 = -1
          ·have h4' : (x4 != -1) = false := by simp [h4]
           have HG := Hd (show defn l y2 (j + 1) = d by rw [HD.out, if_neg (by simp [h4])]; rfl)
           clear h2 h4
           go_wp2_with fail
           go_quiet (fail)
           go_wp2_with fail
           go_roundw
           case rel => exact ⟨j + 1, by omega, by go_num, by rw [HG.out], Hd (below_drewN HBE.out _)⟩
           case measure => simp [intOf]; omega
          ·have h4' : (x4 != -1) = true := by simp [h4]
           have HG := Hd (show defn l y2 (j + 1) = d + 1 by rw [HD.out, if_pos ⟨h2, h4⟩])
           clear h2 h4
           go_wp2_with fail
           go_quiet (fail)
           go_wp2_with fail
           go_roundw
           case rel => exact ⟨j + 1, by omega, by go_num, by rw [HG.out]; go_num, Hd (below_drewN HBE.out _)⟩
           case measure => simp [intOf]; omega
         ·have h2' : (x2 == y2) = false := by simp [h2]
          have HG := Hd (show defn l y2 (j + 1) = d by rw [HD.out, if_neg (fun x => h2 x.1)]; rfl)
          clear h2
          go_wp2_with fail
          go_quiet (fail)
          go_wp2_with fail
          go_roundw
          case rel => exact ⟨j + 1, by omega, by go_num, by rw [HG.out], Hd (below_drewN HBE.out _)⟩
          case measure => simp [intOf]; omega
        ·obtain rfl : j = k := by omega
         obtain ⟨d, hd⟩ : ∃ d, defn l y2 j = d := ⟨_, rfl⟩
         rw [hd] at HV3 ⊢
         clear hd HD hdl
         by_cases a1 : y4 = -1
         ·have a1' : (y4 != -1) = false := by simp [a1]
          have a1'' : (y4 == -1) = true := by simp [a1]
          cases y1 with
          | true =>
           have HR := Hd (show v = 13 by rw [HV3.out]; simp [a1])
           clear a1
           go_wp2_with fail
           go_ret
           exact ⟨by rw [HR.out]; rfl, HT5.out _ HBE.out⟩
          | false =>
           have HR := Hd (show v = 0 by rw [HV3.out]; simp [a1])
           clear a1
           go_wp2_with fail
           go_ret
           exact ⟨by rw [HR.out]; rfl, HT5.out _ HBE.out⟩
         ·have a1' : (y4 != -1) = true := by simp [a1]
          have a1'' : (y4 == -1) = false := by simp [a1]
          by_cases a2 : y4 = (d : Int)
          ·have a2' : (y4 != (d : Int)) = false := by simp [a2]
           by_cases a3 : y4 < (dn : Int)
           ·have a3' : ¬ (dn : Int) ≤ y4 := by omega
            have HR := Hd (show v = 0 by
             have e9 : (if y4 = (d : Int) ∧ y4 < (dn : Int) then (0 : Int) else 9) = 0 := if_pos ⟨a2, a3⟩
             rw [HV3.out, if_neg a1, e9]; simp [a1])
            clear a1 a2 a3
            cases y1 with
            | true =>
             go_wp2_with fail
             go_ret
             exact ⟨by rw [HR.out]; rfl, HT5.out _ HBE.out⟩
            | false =>
             go_wp2_with fail
             go_ret
             exact ⟨by rw [HR.out]; rfl, HT5.out _ HBE.out⟩
           ·have a3' : (dn : Int) ≤ y4 := by omega
            have HR := Hd (show v = 9 by
             have e9 : (if y4 = (d : Int) ∧ y4 < (dn : Int) then (0 : Int) else 9) = 9 := if_neg (fun x => a3 x.2)
             rw [HV3.out, if_neg a1, e9]; simp)
            clear a1 a2 a3
            go_wp2_with fail
            go_ret
            exact ⟨by rw [HR.out]; rfl, HT5.out _ HBE.out⟩
          ·have a2' : (y4 != (d : Int)) = true := by simp [a2]
           have HR := Hd (show v = 9 by
            have e9 : (if y4 = (d : Int) ∧ y4 < (dn : Int) then (0 : Int) else 9) = 9 := if_neg (fun x => a2 x.1)
            rw [HV3.out, if_neg a1, e9]; simp)
           clear a1 a2
           go_wp2_with fail
           go_ret
           exact ⟨by rw [HR.out]; rfl, HT5.out _ HBE.out⟩
   ·have k1n : (y2 != 1) = true := by simp [k1]
    have k2n : (y2 != 2) = true := by simp [k2]
    have HR := Hd (show v = 8 by rw [HV.out, if_pos q0, if_neg (by simp [k1, k2])]; simp [k1, k2])
    clear q0 k1 k2
    go_enter Tryz.func72, Tryz.ntmps72
    go_wp2_with (go_at_call 116; refine (HNM.out _ (to_ (alloc_ w _) (alloc_ _ _))).mono ?_; rintro e w2 ⟨rfl, b2⟩; obtain ⟨hb2, c0, c1, c2, s0, s1, s2, s3, s4⟩ := bx35 b2; have hsz2 : w.heap.size + 1 < w2.heap.size := World.block_lt_of_cell? w2 _ s0; have HB2 := Hd hb2; clear b2 hb2)
    go_ret
    exact ⟨by rw [HR.out]; rfl, HB2.out⟩
 ·have q0' : (q != 0) = true := by simp [q0]
  have HR := Hd (show v = q by rw [HV.out, if_neg q0])
  clear q0
  go_enter Tryz.func72, Tryz.ntmps72
  go_wp2_with (go_at_call 116; refine (HNM.out _ (to_ (alloc_ w _) (alloc_ _ _))).mono ?_; rintro e w2 ⟨rfl, b2⟩; obtain ⟨hb2, c0, c1, c2, s0, s1, s2, s3, s4⟩ := bx35 b2; have hsz2 : w.heap.size + 1 < w2.heap.size := World.block_lt_of_cell? w2 _ s0; have HB2 := Hd hb2; clear b2 hb2)
  go_ret
  exact ⟨by rw [HR.out]; rfl, HB2.out⟩
end
theorem fst3 (E : Nat → Int) : fstE E 3 = if E 0 = 0 then (if E 1 = 0 then E 2 else E 1) else E 0 := by
 unfold fstE
 rw [show List.range 3 = [0, 1, 2] from rfl]
 simp only [List.find?]
 by_cases h0 : E 0 = 0
 ·by_cases h1 : E 1 = 0
  ·by_cases h2 : E 2 = 0
   ·simp [h0, h1, h2]
   ·simp [h0, h1, h2, bne_iff_ne.2 h2]
  ·simp [h0, h1, bne_iff_ne.2 h1]
 ·simp [h0, bne_iff_ne.2 h0]
theorem itm_none {o : Oj} {vf rf de : Nat → Int} {i : Nat} (h : dfr o.l o.fn i = none) : itmE o vf rf de i = 13 := by
 unfold itmE
 rw [fst3]
 have : e3 o vf rf de i 0 = 13 := if_pos h
 rw [this]; rfl
theorem itm_some {o : Oj} {vf rf de : Nat → Int} {i k : Nat} (h : dfr o.l o.fn i = some k) : itmE o vf rf de i = if (syAt o.l k).2.2.2.1 = knd o i then conE o vf rf de i else 14 := by
 unfold itmE
 rw [fst3]
 have h0 : e3 o vf rf de i 0 = 0 := if_neg (by rw [h]; simp)
 have h1 : e3 o vf rf de i 1 = clsE o i k := by show (match dfr o.l o.fn i with | some k => clsE o i k | none => 0) = _; rw [h]
 rw [if_pos h0, h1]
 unfold clsE
 by_cases h2 : (syAt o.l k).2.2.2.1 = knd o i
 ·rw [if_pos h2, if_pos rfl, if_pos h2]; rfl
 ·rw [if_neg h2, if_neg (by decide), if_neg h2]
section
variable {w : World} {o : Oj} {ne : ByteArray → Int} {ks kt : Int → Bool} {vf rf de : Nat → Int}
set_option maxRecDepth 100000 in
set_option maxHeartbeats 8000000 in
theorem ditem (h : Dx w o ne ks kt vf rf de) (i : Nat) (hi : i < o.fn + o.dn) :
  Calls Tryz.prog 74 #[ojV o, .int .i64 (i : Int)] w fun e w' => e = .returned (.int .i64 (itmE o vf rf de i)) ∧ Below w.heap.size w w' := by
 have hf := h.few
 have HDF := Hd (fun W (hb : Below w.heap.size w W) => ddefiner W o (h.mem.on hb) hf i hi)
 cases hd : dfr o.l o.fn i with
 | none =>
  have HV := Hd (itm_none (vf := vf) (rf := rf) (de := de) hd)
  rw [hd] at HDF
  unfold ixV at HDF
  dsimp only at HDF
  clear h hd
  obtain ⟨A, n, c, l, fA, fn, fc, fl, dA, dn, dc, dl⟩ := o
  unfold ojV at HDF ⊢
  dsimp only at HDF hf hi ⊢
  rw [HV.out]
  go_enter Tryz.func74, Tryz.ntmps74
  go_wp2_with (go_at_call 119; refine (HDF.out _ (alloc_ w _)).mono ?_; rintro e w2 ⟨rfl, b2⟩; obtain ⟨hb2, c0, c1, c2⟩ := bx3 b2; have hz2 : w.heap.size < w2.heap.size := World.block_lt_of_cell? w2 _ c0; have HB2 := Hd hb2; clear b2)
  go_ret
  exact ⟨rfl, HB2.out⟩
 | some k =>
  have hk : k < o.n := by have := (dfr_some hd).1; rw [h.mem.sy.1] at this; exact this
  have HV := Hd (itm_some (vf := vf) (rf := rf) (de := de) hd)
  rw [hd] at HDF
  unfold ixV at HDF
  dsimp only at HDF
  have HS := Hd (fun W (hb : Below w.heap.size w W) => (h.mem.on hb).sy.at_ hk)
  have hk0 : ¬ (k : Int) < 0 := by omega
  have hk2 : (0 : Int) ≤ (k : Int) := by omega
  have hk1 : (k : Int) < (o.n : Int) := by omega
  clear hd
  by_cases hlt : i < o.fn
  ·have HF := Hd (fun W (hb : Below w.heap.size w W) => fc_at (h.mem.on hb).fs hlt)
   have HVF := Hd (fun W (hb : Below w.heap.size w W) => h.fn W hb i hlt)
   have HRF := Hd (fun W (hb : Below w.heap.size w W) => h.rng W hb i hlt)
   have hli : ¬ (o.fn : Int) ≤ (i : Int) := by omega
   have hiI : (i : Int) < (o.fn : Int) := by omega
   have hi0 : (0 : Int) ≤ (i : Int) := by omega
   have HV := Hd (show itmE o vf rf de i = if (syAt o.l k).2.2.2.1 = (fcAt o.fl i).cl then (if vf i = 0 then rf i else vf i) else 14 by rw [HV.out]; unfold knd conE; rw [if_pos hlt, if_pos hlt])
   clear h hk
   obtain ⟨A, n, c, l, fA, fn, fc, fl, dA, dn, dc, dl⟩ := o
   obtain ⟨v9, hv9⟩ : ∃ z, itmE ⟨A, n, c, l, fA, fn, fc, fl, dA, dn, dc, dl⟩ vf rf de i = z := ⟨_, rfl⟩
   rw [hv9] at HV ⊢
   unfold ojV at HDF ⊢
   unfold encFc at HVF HRF
   dsimp only at HDF HS HF HVF HRF HV hk1 hli hiI hf ⊢
   obtain ⟨sa, rfl, -⟩ := HS.out w (Below.refl _ _)
   obtain ⟨ad, rfl, -⟩ := HF.out w (Below.refl _ _)
   obtain ⟨⟨cl, kds, pd, no, fr, tt, lns, cod, rl⟩, hr⟩ : ∃ r, fcAt fl i = r := ⟨_, rfl⟩
   rw [hr] at HF HVF HRF HV
   dsimp only at HF HVF HRF HV
   obtain ⟨v, hv⟩ : ∃ v, vf i = v := ⟨_, rfl⟩
   rw [hv] at HVF HV
   obtain ⟨r, hr2⟩ : ∃ r, rf i = r := ⟨_, rfl⟩
   rw [hr2] at HRF HV
   obtain ⟨⟨y0, y1, y2, y3, y4⟩, hy⟩ : ∃ y, syAt l k = y := ⟨_, rfl⟩
   rw [hy] at HS HV
   dsimp only at HS HV
   clear hr hv hr2 hy hv9 hlt hi
   by_cases hc : y3 = cl
   ·have hc' : (cl != y3) = false := by simp [hc]
    have HV := Hd (show v9 = if v = 0 then r else v by rw [HV.out, if_pos hc])
    clear hc
    go_enter Tryz.func74, Tryz.ntmps74
    go_wp2_with (go_at_call 119; refine (HDF.out _ (alloc_ w _)).mono ?_; rintro e w2 ⟨rfl, b2⟩; obtain ⟨hb2, c0, c1, c2⟩ := bx3 b2; have hz2 : w.heap.size < w2.heap.size := World.block_lt_of_cell? w2 _ c0; have HB2 := Hd hb2; clear b2; obtain ⟨se, es, _, s0, s1, s2, s3, s4⟩ := HS.out w2 hb2; obtain rfl := Option.some.inj es; clear es; obtain ⟨ae, ee, _, f0, f1, f2, f3, f4, f5, f6, f7, f8⟩ := HF.out w2 hb2; obtain rfl := Option.some.inj ee; clear ee)
    refine wp_region_noPanic ?_
    refine wp_region_held_drew (S := fun W => W.cell? ⟨w.heap.size, 0, none⟩ = some (.slice (some sa) n c) ∧ W.cell? ⟨w.heap.size, 1, none⟩ = some (.slice (some ad) fn fc) ∧ W.cell? ⟨w.heap.size, 2, none⟩ = some (.slice dA dn dc) ∧ W.cell? (ad.add (i * 9)) = some (.int .i64 cl) ∧ W.cell? ⟨(ad.add (i * 9)).block, (ad.add (i * 9)).off + 1, none⟩ = some (slV kds) ∧ W.cell? ⟨(ad.add (i * 9)).block, (ad.add (i * 9)).off + 2, none⟩ = some (.int .i64 pd) ∧ W.cell? ⟨(ad.add (i * 9)).block, (ad.add (i * 9)).off + 3, none⟩ = some (.bool no) ∧ W.cell? ⟨(ad.add (i * 9)).block, (ad.add (i * 9)).off + 4, none⟩ = some (.int .i64 fr) ∧ W.cell? ⟨(ad.add (i * 9)).block, (ad.add (i * 9)).off + 5, none⟩ = some (.int .i64 tt) ∧ W.cell? ⟨(ad.add (i * 9)).block, (ad.add (i * 9)).off + 6, none⟩ = some (slV lns) ∧ W.cell? ⟨(ad.add (i * 9)).block, (ad.add (i * 9)).off + 7, none⟩ = some (slV cod) ∧ W.cell? ⟨(ad.add (i * 9)).block, (ad.add (i * 9)).off + 8, none⟩ = some (slV rl) ∧ Below w.heap.size w W) (by kernel_rfl) (⟨c0, c1, c2, f0, f1, f2, f3, f4, f5, f6, f7, f8, HB2.out.drew⟩) (fun hHeld => ?_)
    refine tk7Z 0 1 2 3 4 5 6 hHeld ?_
    refine rd1Z 7 (fun K hK => ?_)
    go_simp
    refine (HVF.out _ hHeld.2.2.2.2.2.2.2.2.2.2.2.2).mono ?_
    rintro e w3 ⟨⟨x, rfl⟩, b3⟩
    try go_wp2_with fail
    refine hK.out _ _ (⟨cell_on hHeld.1 b3, cell_on hHeld.2.1 b3, cell_on hHeld.2.2.1 b3, cell_on hHeld.2.2.2.1 b3, cell_on hHeld.2.2.2.2.1 b3, cell_on hHeld.2.2.2.2.2.1 b3, cell_on hHeld.2.2.2.2.2.2.1 b3, cell_on hHeld.2.2.2.2.2.2.2.1 b3, cell_on hHeld.2.2.2.2.2.2.2.2.1 b3, cell_on hHeld.2.2.2.2.2.2.2.2.2.1 b3, cell_on hHeld.2.2.2.2.2.2.2.2.2.2.1 b3, cell_on hHeld.2.2.2.2.2.2.2.2.2.2.2.1 b3, to_ hHeld.2.2.2.2.2.2.2.2.2.2.2.2 b3⟩) ?_
    clear hK K hHeld
    intro hHeld
    try simp only [Act.put, nmZ]
    refine tk5Z 8 9 10 11 12 hHeld ?_
    refine wpAnyH_done (by kernel_rfl) ?_ _
    refine NoPanic.normal ?_
    by_cases h0 : v = 0
    ·have h0' : (v != 0) = false := by simp [h0]
     have HR := Hd (show v9 = r by rw [HV.out, if_pos h0])
     clear h0
     obtain ⟨c0, c1, c2, f0, f1, f2, f3, f4, f5, f6, f7, f8, hb3⟩ := hHeld
     have HB3 := Hd hb3
     clear hb3
     go_wp2_with (go_at_call 122; refine (HRF.out _ HB3.out).mono ?_; rintro e w4 ⟨rfl, b4⟩; have HB4 := Hd b4; clear b4)
     go_ret
     exact ⟨by rw [HR.out]; rfl, to_ HB3.out HB4.out⟩
    ·have h0' : (v != 0) = true := by simp [h0]
     have HR := Hd (show v9 = v by rw [HV.out, if_neg h0])
     clear h0
     go_wp2_with fail
     go_ret
     exact ⟨by rw [HR.out]; rfl, hHeld.2.2.2.2.2.2.2.2.2.2.2.2⟩
   ·have hc' : (cl != y3) = true := by simp [Ne.symm hc]
    have HR := Hd (show v9 = 14 by rw [HV.out, if_neg hc])
    clear hc
    go_enter Tryz.func74, Tryz.ntmps74
    go_wp2_with (go_at_call 119; refine (HDF.out _ (alloc_ w _)).mono ?_; rintro e w2 ⟨rfl, b2⟩; obtain ⟨hb2, c0, c1, c2⟩ := bx3 b2; have hz2 : w.heap.size < w2.heap.size := World.block_lt_of_cell? w2 _ c0; have HB2 := Hd hb2; clear b2; obtain ⟨se, es, _, s0, s1, s2, s3, s4⟩ := HS.out w2 hb2; obtain rfl := Option.some.inj es; clear es; obtain ⟨ae, ee, _, f0, f1, f2, f3, f4, f5, f6, f7, f8⟩ := HF.out w2 hb2; obtain rfl := Option.some.inj ee; clear ee)
    go_ret
    exact ⟨by rw [HR.out]; rfl, HB2.out⟩
  ·obtain ⟨j, rfl⟩ : ∃ j, i = o.fn + j := ⟨i - o.fn, by omega⟩
   have hj : j < o.dn := by omega
   have HF := Hd (fun W (hb : Below w.heap.size w W) => dc_at (h.mem.on hb).ds hj)
   have HVF := Hd (fun W (hb : Below w.heap.size w W) => h.dat W hb j hj)
   have hli : (o.fn : Int) ≤ ((o.fn + j : Nat) : Int) := by omega
   have hiI : (j : Int) < (o.dn : Int) := by omega
   have hi0 : (0 : Int) ≤ (j : Int) := by omega
   have hsub : IntKind.i64.wrap (((o.fn + j : Nat) : Int) - (o.fn : Int)) = (j : Int) := by
    have e : ((o.fn + j : Nat) : Int) - (o.fn : Int) = (j : Int) := by omega
    rw [e]; exact IntWalk.i64_in _ ⟨by omega, by omega⟩
   have HV := Hd (show itmE o vf rf de (o.fn + j) = if (syAt o.l k).2.2.2.1 = (dcAt o.dl j).kd then de j else 14 by rw [HV.out]; unfold knd conE; rw [if_neg hlt, if_neg hlt, Nat.add_sub_cancel_left])
   clear h hk
   obtain ⟨A, n, c, l, fA, fn, fc, fl, dA, dn, dc, dl⟩ := o
   obtain ⟨v9, hv9⟩ : ∃ z, itmE ⟨A, n, c, l, fA, fn, fc, fl, dA, dn, dc, dl⟩ vf rf de (fn + j) = z := ⟨_, rfl⟩
   dsimp only at HV ⊢
   rw [hv9] at HV ⊢
   unfold ojV at HDF ⊢
   unfold encDc at HVF
   dsimp only at HDF HS HF HVF HV hk1 hli hiI hf hsub ⊢
   obtain ⟨sa, rfl, -⟩ := HS.out w (Below.refl _ _)
   obtain ⟨ad, rfl, -⟩ := HF.out w (Below.refl _ _)
   obtain ⟨⟨kd, ⟨wA, wn, wc⟩, ⟨rA, rn, rc⟩⟩, hr⟩ : ∃ r, dcAt dl j = r := ⟨_, rfl⟩
   rw [hr] at HF HVF HV
   unfold slV at HF HVF
   dsimp only at HF HVF HV
   obtain ⟨v, hv⟩ : ∃ v, de j = v := ⟨_, rfl⟩
   rw [hv] at HVF HV
   obtain ⟨⟨y0, y1, y2, y3, y4⟩, hy⟩ : ∃ y, syAt l k = y := ⟨_, rfl⟩
   rw [hy] at HS HV
   dsimp only at HS HV
   obtain ⟨x, hx⟩ : ∃ x : Int, ((fn + j : Nat) : Int) = x := ⟨_, rfl⟩
   rw [hx] at HDF hli hsub ⊢
   clear hr hv hy hv9 hlt hi hx
   by_cases hc : y3 = kd
   ·have hc' : (kd != y3) = false := by simp [hc]
    have HR := Hd (show v9 = v by rw [HV.out, if_pos hc])
    clear hc
    go_enter Tryz.func74, Tryz.ntmps74
    go_wp2_with (go_at_call 119; refine (HDF.out _ (alloc_ w _)).mono ?_; rintro e w2 ⟨rfl, b2⟩; obtain ⟨hb2, c0, c1, c2⟩ := bx3 b2; have hz2 : w.heap.size < w2.heap.size := World.block_lt_of_cell? w2 _ c0; have HB2 := Hd hb2; clear b2; obtain ⟨se, es, _, s0, s1, s2, s3, s4⟩ := HS.out w2 hb2; obtain rfl := Option.some.inj es; clear es; obtain ⟨ae, ee, _, d0, d1, d2⟩ := HF.out w2 hb2; obtain rfl := Option.some.inj ee; clear ee; have hz3 := World.block_lt_of_cell? w2 _ d0)
    go_wp2_with (go_at_call 120; refine (HVF.out _ (to_ HB2.out (alloc_ _ _))).mono ?_; rintro e w4 ⟨rfl, b4⟩; have HB4 := Hd (to_ (to_ HB2.out (alloc_ _ _)) b4); clear b4)
    go_ret
    exact ⟨by rw [HR.out]; rfl, HB4.out⟩
   ·have hc' : (kd != y3) = true := by simp [Ne.symm hc]
    have HR := Hd (show v9 = 14 by rw [HV.out, if_neg hc])
    clear hc
    go_enter Tryz.func74, Tryz.ntmps74
    go_wp2_with (go_at_call 119; refine (HDF.out _ (alloc_ w _)).mono ?_; rintro e w2 ⟨rfl, b2⟩; obtain ⟨hb2, c0, c1, c2⟩ := bx3 b2; have hz2 : w.heap.size < w2.heap.size := World.block_lt_of_cell? w2 _ c0; have HB2 := Hd hb2; clear b2; obtain ⟨se, es, _, s0, s1, s2, s3, s4⟩ := HS.out w2 hb2; obtain rfl := Option.some.inj es; clear es; obtain ⟨ae, ee, _, d0, d1, d2⟩ := HF.out w2 hb2; obtain rfl := Option.some.inj ee; clear ee; have hz3 := World.block_lt_of_cell? w2 _ d0)
    go_ret
    exact ⟨by rw [HR.out]; rfl, to_ HB2.out (alloc_ _ _)⟩
set_option maxRecDepth 100000 in
set_option maxHeartbeats 8000000 in
theorem dcheck (h : Dx w o ne ks kt vf rf de) :
  Calls Tryz.prog 38 #[ojV o] w fun e w' => e = .returned (.tuple #[.int .i64 (chkO (tooMany o) o.n (o.fn + o.dn) (symE o ne ks kt) (itmE o vf rf de)).1, .int .i64 (chkO (tooMany o) o.n (o.fn + o.dn) (symE o ne ks kt) (itmE o vf rf de)).2]) ∧ Below w.heap.size w w' := by
 have hf := h.few
 have HSY := Hd (fun W (hb : Below w.heap.size w W) i hi => dsymbol (h.on hb) i hi)
 have HIT := Hd (fun W (hb : Below w.heap.size w W) i hi => ditem (h.on hb) i hi)
 have HIM := Hd (fun W => ditems o W hf.2)
 clear h
 obtain ⟨sE, hs⟩ : ∃ z, symE o ne ks kt = z := ⟨_, rfl⟩
 rw [hs] at HSY ⊢
 obtain ⟨iE, hs'⟩ : ∃ z, itmE o vf rf de = z := ⟨_, rfl⟩
 rw [hs'] at HIT ⊢
 clear hs hs'
 unfold tooMany
 obtain ⟨A, n, c, l, fA, fn, fc, fl, dA, dn, dc, dl⟩ := o
 unfold ojV at HSY HIT HIM ⊢
 dsimp only at HSY HIT HIM hf ⊢
 obtain ⟨it, hit⟩ : ∃ z, fn + dn = z := ⟨_, rfl⟩
 rw [hit] at HIM HIT ⊢
 have hitm : it ≤ 2000 := by omega
 clear hit
 by_cases m1 : 32 < n
 ·have m1' : (32 : Int) < (n : Int) := by omega
  rw [decide_eq_true m1, Bool.true_or, Bool.true_or]
  clear m1
  go_enter Tryz.func38, Tryz.ntmps38
  go_wp2_with fail
  refine bodyPost_ret (v := .tuple #[.int .i64 19, .int .i64 (-1)]) (by simp [results, Tryz.results38, go_sem]) rfl ⟨rfl, alloc_ _ _⟩
 ·have m1' : ¬ (32 : Int) < (n : Int) := by omega
  rw [decide_eq_false m1, Bool.false_or]
  clear m1
  by_cases m2 : 12 < fn
  ·have m2' : (12 : Int) < (fn : Int) := by omega
   rw [decide_eq_true m2, Bool.true_or]
   clear m2
   go_enter Tryz.func38, Tryz.ntmps38
   go_wp2_with fail
   refine bodyPost_ret (v := .tuple #[.int .i64 19, .int .i64 (-1)]) (by simp [results, Tryz.results38, go_sem]) rfl ⟨rfl, alloc_ _ _⟩
  ·have m2' : ¬ (12 : Int) < (fn : Int) := by omega
   rw [decide_eq_false m2, Bool.false_or]
   clear m2
   by_cases m3 : 8 < dn
   ·have m3' : (8 : Int) < (dn : Int) := by omega
    rw [decide_eq_true m3]
    clear m3
    go_enter Tryz.func38, Tryz.ntmps38
    go_wp2_with fail
    refine bodyPost_ret (v := .tuple #[.int .i64 19, .int .i64 (-1)]) (by simp [results, Tryz.results38, go_sem]) rfl ⟨rfl, alloc_ _ _⟩
   ·have m3' : ¬ (8 : Int) < (dn : Int) := by omega
    rw [decide_eq_false m3]
    clear m3
    have HCS := Hd (fun i hi h1 h2 => chk_sym (n := n) (it := it) (sE := sE) (iE := iE) (i := i) hi h1 h2)
    have HCI := Hd (fun h0 i hi h1 h2 => chk_itm (n := n) (it := it) (sE := sE) (iE := iE) (i := i) h0 hi h1 h2)
    have HCO := Hd (fun h0 h1 => chk_ok (n := n) (it := it) (sE := sE) (iE := iE) h0 h1)
    generalize chkO false n it sE iE = rr at *
    obtain ⟨W0, hW0⟩ : ∃ W0, w.alloc (.cells #[.slice A n c, .slice fA fn fc, .slice dA dn dc] 71) = W0 := ⟨_, rfl⟩
    have HX := Hd (fun W (hb : Below W0.heap.size W0 W) => bx3 (w := w) (w2 := W) (by rw [hW0]; exact hb))
    obtain ⟨-, c0, c1, c2⟩ := HX.out W0 (Below.refl _ _)
    go_enter Tryz.func38, Tryz.ntmps38
    go_wp2_with fail
    clear hW0 c0 c1 c2
    go_loopw [4] (fun i9 wr => ∃ k : Nat, k ≤ n ∧ i9 = .int .i64 (k : Int) ∧ Hid (∀ m, m < k → (sE m != 0) = false) ∧ Hid (Below W0.heap.size W0 wr)) (fun i9 _ => n - (intOf i9).toNat)
    case atStart => exact ⟨0, Nat.zero_le _, rfl, Hd (fun m hm => by omega), Hd (Below.refl _ _)⟩
    case round =>
     obtain ⟨k, hk, rfl, HNO, HBE⟩ := hrel
     obtain ⟨hb9, c0, c1, c2⟩ := HX.out wr HBE.out
     have HB9 := Hd hb9
     clear hb9
     by_cases hlt : k < n
     ·have hkI : (k : Int) < (n : Int) := by omega
      have HC := Hd (HSY.out wr HB9.out k hlt)
      have HV := Hd (fun e => HCS.out k hlt HNO.out e)
      have HM := Hd (fun e => upto_more (p := fun m => (sE m != 0) = false) HNO.out e)
      obtain ⟨q, hq⟩ : ∃ q, sE k = q := ⟨_, rfl⟩
      rw [hq] at HC HV HM
      clear hq
      by_cases q0 : q = 0
      ·have q0' : (q != 0) = false := by simp [q0]
       have HR := Hd (HM.out q0')
       clear q0
       go_wp2_with (go_at_call 72; refine HC.out.mono ?_; rintro e w3 ⟨rfl, b3⟩; have HB3 := Hd (to_ HBE.out b3); clear b3)
       go_roundw
       case rel => exact ⟨k + 1, by omega, by go_num, HR, HB3⟩
       case measure => simp [intOf]; omega
      ·have q0' : (q != 0) = true := by simp [q0]
       have HR := Hd (HV.out q0')
       clear q0
       go_wp2_with (go_at_call 72; refine HC.out.mono ?_; rintro e w3 ⟨rfl, b3⟩; have HB3 := Hd (to_ HB9.out b3); clear b3)
       refine bodyPost_ret (v := .tuple #[.int .i64 q, .int .i64 (k : Int)]) (by simp [results, Tryz.results38, go_sem]) rfl ⟨by rw [HR.out], HB3.out⟩
     ·obtain rfl : k = n := by omega
      go_wp2_with fail
      clear c0 c1 c2
      obtain ⟨W5, hW5⟩ : ∃ W5, W5 = wr := ⟨_, rfl⟩
      subst hW5
      have HX5 := Hd (fun W (hb : Below W5.heap.size W5 W) => HX.out W (to_ HBE.out hb))
      go_loopw [6] (fun i9 wr => ∃ j : Nat, j ≤ it ∧ i9 = .int .i64 (j : Int) ∧ Hid (∀ m, m < j → (iE m != 0) = false) ∧ Hid (Below W5.heap.size W5 wr)) (fun i9 _ => it - (intOf i9).toNat)
      case atStart => exact ⟨0, Nat.zero_le _, rfl, Hd (fun m hm => by omega), Hd (Below.refl _ _)⟩
      case round =>
       obtain ⟨j, hj, rfl, HNI, HBI⟩ := hrel
       obtain ⟨hb9, c0, c1, c2⟩ := HX5.out wr HBI.out
       have HB6 := Hd hb9
       clear hb9
       by_cases hjl : j < it
       ·have hjI : (j : Int) < (it : Int) := by omega
        have HC := Hd (fun W (hb : Below w.heap.size w W) => HIT.out W hb j hjl)
        have HV := Hd (fun e => HCI.out HNO.out j hjl HNI.out e)
        have HM := Hd (fun e => upto_more (p := fun m => (iE m != 0) = false) HNI.out e)
        obtain ⟨q, hq⟩ : ∃ q, iE j = q := ⟨_, rfl⟩
        rw [hq] at HC HV HM
        clear hq
        by_cases q0 : q = 0
        ·have q0' : (q != 0) = false := by simp [q0]
         have HR := Hd (HM.out q0')
         clear q0
         go_wp2_with (go_at_call 73; refine (HIM.out _).mono ?_; rintro e w3 ⟨rfl, b3⟩; replace c0 := cell_on c0 b3; replace c1 := cell_on c1 b3; replace c2 := cell_on c2 b3; have HB3 := Hd (to_ HBI.out b3); have HB7 := Hd (to_ HB6.out b3); clear b3; go_wp2_with (go_at_call 74; refine (HC.out _ HB7.out).mono ?_; rintro e w4 ⟨rfl, b4⟩; have HB4 := Hd (to_ HB3.out b4); clear b4))
         go_roundw
         case rel => exact ⟨j + 1, by omega, by go_num, HR, HB4⟩
         case measure => simp [intOf]; omega
        ·have q0' : (q != 0) = true := by simp [q0]
         have HR := Hd (HV.out q0')
         clear q0
         go_wp2_with (go_at_call 73; refine (HIM.out _).mono ?_; rintro e w3 ⟨rfl, b3⟩; replace c0 := cell_on c0 b3; replace c1 := cell_on c1 b3; replace c2 := cell_on c2 b3; have HB7 := Hd (to_ HB6.out b3); clear b3; go_wp2_with (go_at_call 74; refine (HC.out _ HB7.out).mono ?_; rintro e w4 ⟨rfl, b4⟩; have HB4 := Hd (to_ HB7.out b4); clear b4))
         refine bodyPost_ret (v := .tuple #[.int .i64 q, .int .i64 (j : Int)]) (by simp [results, Tryz.results38, go_sem]) rfl ⟨by rw [HR.out], HB4.out⟩
       ·obtain rfl : j = it := by omega
        have HR := Hd (HCO.out HNO.out HNI.out)
        go_wp2_with (go_at_call 73; refine (HIM.out _).mono ?_; rintro e w3 ⟨rfl, b3⟩; have HB7 := Hd (to_ HB6.out b3); clear b3)
        refine bodyPost_ret (v := .tuple #[.int .i64 0, .int .i64 (-1)]) (by simp [results, Tryz.results38, go_sem]) rfl ⟨by rw [HR.out], HB7.out⟩
end
end Go.Proofs.YtdaimeaofgbfpaaGreat.Bo
