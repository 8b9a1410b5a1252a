/-
 Pf2
-/
import Derived.Test.YtdaimeaofgbfpaaGreatZa2
import Derived.Test.YtdaimeaofgbfpaaGreatPa2
set_option linter.unusedSimpArgs false
set_option linter.unusedVariables false
namespace Go.Proofs.YtdaimeaofgbfpaaGreat.By
open Go.RowKit
open Mem Gm Rf
def isOfD (x : Sy) (cl : Int) : Bool := x.2.2.1 == 1 && x.2.2.2.1 == cl
section
variable {W : World} {q : Nat} {kd : Int} {AW AR AS : Option Addr} {nW cW nR cR nS cS : Nat} {rs : List Rl} {ss : List Sy}
def c1V (kd : Int) : Bool := !Si.clB kd
def c2V (nW : Nat) (rs : List Rl) (i : Nat) : Bool := !(decide (0 ≤ (rlAt rs i).1) && decide ((rlAt rs i).1 < (nW : Int)))
def c3V (rs : List Rl) (i : Nat) : Bool := decide (0 < i) && decide ((rlAt rs i).1 ≤ (rlAt rs (i - 1)).1)
def c4V (nS : Nat) (rs : List Rl) (i : Nat) : Bool := !(decide (0 ≤ (rlAt rs i).2.1) && decide ((rlAt rs i).2.1 < (nS : Int)))
def c5V (kd : Int) (rs : List Rl) (ss : List Sy) (i : Nat) : Bool := !isOfD (syAt ss (rlAt rs i).2.1.toNat) (Si.clV kd)
end
section
variable {W : World} {q : Nat} {kd : Int} {AW AR AS : Option Addr} {nW cW nR cR nS cS : Nat} {rs : List Rl} {ss : List Sy}
def fE (kd : Int) (nW nS : Nat) (rs : List Rl) (ss : List Sy) (i : Nat) : Int := if c1V kd || c2V nW rs i || c3V rs i || c4V nS rs i then 11 else if c5V kd rs ss i then 8 else 0
def CkD (x : Int) (w : World) (e : Ending) (w' : World) : Prop := e = .returned (.int .i64 x) ∧ Below w.heap.size w w'
end
def firF (f : Nat → Int) : Nat → Nat → Int
 | _, 0 => 0
 | k, m + 1 => if f k ≠ 0 then f k else firF f (k + 1) m
theorem firF_skip (f : Nat → Int) : ∀ (d k m : Nat), (∀ j, k ≤ j → j < k + d → f j = 0) → firF f k (d + m) = firF f (k + d) m
 | 0, k, m, _ => by rw [Nat.zero_add]; rfl
 | d + 1, k, m, h => by
  rw [show d + 1 + m = (d + m) + 1 by omega, firF, if_neg (by rw [h k (by omega) (by omega)]; decide), firF_skip f d (k + 1) m fun j h1 h2 => h j (by omega) (by omega), show k + 1 + d = k + (d + 1) by omega]
theorem fir_bad {f : Nat → Int} {n k : Nat} (hk : k < n) (h : ∀ j, j < k → f j = 0) (hb : f k ≠ 0) : firF f 0 n = f k := by
 obtain ⟨m, rfl⟩ : ∃ m, n = k + (m + 1) := ⟨n - k - 1, by omega⟩
 rw [firF_skip f k 0 (m + 1) fun j _ h2 => h j (by omega), Nat.zero_add, firF, if_pos hb]
theorem fir_all {f : Nat → Int} {n : Nat} (h : ∀ j, j < n → f j = 0) : firF f 0 n = 0 := by
 have := firF_skip f n 0 0 fun j _ h2 => h j (by omega)
 rw [Nat.add_zero] at this
 rw [this]; rfl
def nzB (ws : List Int) : Bool := ws.any fun w => w != 0
def chkD (kd : Int) (ws : List Int) (nS : Nat) (rs : List Rl) (ss : List Sy) : Int :=
 if Si.kindB kd = false then 8 else if 32 < ws.length then 6 else if (kd != 0 && nzB ws) = true then 2 else firF (fE kd ws.length nS rs ss) 0 rs.length
theorem nz_first {ws : List Int} {k : Nat} (hk : k < ws.length) (h : (el ws k != 0) = true) : nzB ws = true := by
 unfold nzB
 rw [List.any_eq_true]
 exact ⟨ws[k], List.getElem_mem hk, by rw [el_at hk]; exact h⟩
theorem nz_none {ws : List Int} (h : ∀ j, j < ws.length → (el ws j != 0) = false) : nzB ws = false := by
 unfold nzB
 rw [List.any_eq_false]
 intro x hx
 obtain ⟨j, hj, rfl⟩ := List.getElem_of_mem hx
 rw [el_at hj, h j hj]; decide
theorem text_kind (kd : Int) : (ByteArray.toList (Si.textV kd)).isEmpty = !Si.kindB kd := by
 unfold Si.textV Si.kindB
 by_cases h : 0 ≤ kd ∧ kd ≤ 8
 ·rw [if_pos h, decide_eq_true h]
  have h9 : ∀ i : Fin 9, (ByteArray.toList (Si.txB i.val)).isEmpty = false := by decide +kernel
  have := h9 ⟨kd.toNat, by omega⟩
  simpa using this
 ·rw [if_neg h, decide_eq_false h]; decide +kernel
section
variable {kd : Int} {nW nS i : Nat} {rs : List Rl} {ss : List Sy}
theorem f11_1 (h : kd = 0) : fE kd nW nS rs ss i = 11 := by unfold fE c1V; rw [h, show Si.clB 0 = false from by decide]; simp
theorem f11_2 (h : (rlAt rs i).1 < 0) : fE kd nW nS rs ss i = 11 := by unfold fE c2V; rw [decide_eq_false (show ¬ 0 ≤ (rlAt rs i).1 by omega)]; simp
theorem f11_3 (h : (nW : Int) ≤ (rlAt rs i).1) : fE kd nW nS rs ss i = 11 := by unfold fE c2V; rw [decide_eq_false (show ¬ (rlAt rs i).1 < (nW : Int) by omega)]; simp
theorem f11_4 (h0 : 0 < i) (h : (rlAt rs i).1 ≤ (rlAt rs (i - 1)).1) : fE kd nW nS rs ss i = 11 := by unfold fE c3V; rw [decide_eq_true h0, decide_eq_true h]; simp
theorem f11_5 (h : (rlAt rs i).2.1 < 0) : fE kd nW nS rs ss i = 11 := by unfold fE c4V; rw [decide_eq_false (show ¬ 0 ≤ (rlAt rs i).2.1 by omega)]; simp
theorem f11_6 (h : (nS : Int) ≤ (rlAt rs i).2.1) : fE kd nW nS rs ss i = 11 := by unfold fE c4V; rw [decide_eq_false (show ¬ (rlAt rs i).2.1 < (nS : Int) by omega)]; simp
theorem f_ok (hk : 1 ≤ kd ∧ kd ≤ 8) (h2 : 0 ≤ (rlAt rs i).1) (h3 : (rlAt rs i).1 < (nW : Int)) (h4 : i = 0 ∨ (rlAt rs (i - 1)).1 < (rlAt rs i).1) (h5 : 0 ≤ (rlAt rs i).2.1) (h6 : (rlAt rs i).2.1 < (nS : Int)) : fE kd nW nS rs ss i = if c5V kd rs ss i then 8 else 0 := by
 unfold fE c1V c2V c3V c4V
 have h7 : (decide (0 < i) && decide ((rlAt rs i).1 ≤ (rlAt rs (i - 1)).1)) = false := by
  rcases h4 with rfl | h4
  ·rfl
  ·rw [decide_eq_false (show ¬ (rlAt rs i).1 ≤ (rlAt rs (i - 1)).1 by omega)]; simp
 rw [show Si.clB kd = true from decide_eq_true hk, decide_eq_true h2, decide_eq_true h3, decide_eq_true h5, decide_eq_true h6, h7]
 simp
theorem c5_is {m : Nat} (hk : 1 ≤ kd ∧ kd ≤ 8) (hm : (rlAt rs i).2.1 = (m : Int)) : c5V kd rs ss i = !((syAt ss m).2.2.1 == 1 && (syAt ss m).2.2.2.1 == kd - 1) := by
 unfold c5V isOfD
 rw [hm, show Si.clV kd = kd - 1 from by unfold Si.clV; rw [if_pos hk]]; rfl
end
set_option maxRecDepth 100000 in
set_option maxHeartbeats 4000000 in
theorem rcheckD_any (w : World) (kd : Int) (AW AR AS : Option Addr) (nW cW nR cR nS cS : Nat) (ws : List Int) (rs : List Rl) (ss : List Sy) (hlo : -9223372036854775808 ≤ kd) (hhi : kd ≤ 9223372036854775807) (h1 : IW w (.slice AW nW cW) ws) (hL : ws.length = nW) (hn : nW ≤ 1000000) (h2 : RlL w AR nR cR rs) (hR : nR ≤ 1000000) (h3 : SyL w AS nS cS ss) :
  Calls Tryz.prog 120 #[.agg #[.int .i64 kd, .slice AW nW cW, .slice AR nR cR], .slice AS nS cS] w (CkD (chkD kd ws nS rs ss) w) := by
 have hRL : rs.length = nR := h2.1
 obtain ⟨W1, hW1⟩ : ∃ W1, w.alloc (.cells #[.int .i64 kd, .slice AW nW cW, .slice AR nR cR] 84) = W1 := ⟨_, rfl⟩
 have hsz1 : w.heap.size < W1.heap.size := by rw [← hW1]; simp
 have hB0 : Below w.heap.size w W1 := by rw [← hW1]; exact alloc_ _ _
 have HB0 := Hd hB0
 have HX := Hd (show ∀ W, Below W1.heap.size W1 W → Blk W w.heap.size 84 #[.int .i64 kd, .slice AW nW cW, .slice AR nR cR] from fun W hb => (hb.block _ hsz1).trans (by rw [← hW1]; exact Blk.new w _ _))
 have HTX := Hd (Si.rtext_any kd hlo hhi W1)
 have HCW := Hd (fun W (hb : Below w.heap.size w W) i (hi : i < nW) => iw_cell (h1.on hb) hL hi)
 have HCR := Hd (fun W (hb : Below w.heap.size w W) i (hi : i < nR) => (h2.on hb).at_ hi)
 have HCS := Hd (fun W (hb : Below w.heap.size w W) i (hi : i < nS) => (h3.on hb).at_ hi)
 have HWL := Hd hL
 have HV := Hd (show chkD kd ws nS rs ss = if Si.kindB kd = false then 8 else if 32 < nW then 6 else if (kd != 0 && nzB ws) = true then 2 else firF (fE kd nW nS rs ss) 0 nR from by unfold chkD; rw [hL, hRL])
 have hte := text_kind kd
 obtain ⟨kb, hkb⟩ : ∃ b, Si.kindB kd = b := ⟨_, rfl⟩
 have HKB := Hd hkb
 rw [hkb] at hte HV
 generalize Si.textV kd = y at hte HTX
 obtain ⟨c0, c1, c2⟩ := blk3 (HX.out W1 (Below.refl _ _))
 clear hB0 h1 hL h2 h3 hkb hRL hlo hhi
 cases kb with
 | false =>
  have hte2 : (ByteArray.toList y).isEmpty = true := hte
  clear hte
  go_enter Tryz.func120, Tryz.ntmps120
  go_wp2_with (go_at_call 118; refine HTX.out.mono ?_; rintro e w9 ⟨rfl, b9⟩; have HB9 := Hd b9; clear b9)
  go_ret
  exact ⟨by rw [HV.out]; rfl, to_ HB0.out HB9.out⟩
 | true =>
  have hte2 : (ByteArray.toList y).isEmpty = false := hte
  clear hte
  by_cases hl : 32 < nW
  ·have hlI : (32 : Int) < (nW : Int) := by omega
   have HR := Hd (show chkD kd ws nS rs ss = 6 from by rw [HV.out, if_neg (by decide), if_pos hl])
   go_enter Tryz.func120, Tryz.ntmps120
   go_wp2_with (go_at_call 118; refine HTX.out.mono ?_; rintro e w9 ⟨rfl, b9⟩; have HB9 := Hd b9; obtain ⟨c0, c1, c2⟩ := blk3 (HX.out w9 b9); clear b9)
   go_ret
   exact ⟨by rw [HR.out]; rfl, to_ HB0.out HB9.out⟩
  ·have hlI : ¬ (32 : Int) < (nW : Int) := by omega
   have HV2 := Hd (show chkD kd ws nS rs ss = if (kd != 0 && nzB ws) = true then 2 else firF (fE kd nW nS rs ss) 0 nR from by rw [HV.out, if_neg (by decide), if_neg hl])
   go_enter Tryz.func120, Tryz.ntmps120
   go_wp2_with (go_at_call 118; refine HTX.out.mono ?_; rintro e w9 ⟨rfl, b9⟩; have HB9 := Hd b9; obtain ⟨c0, c1, c2⟩ := blk3 (HX.out w9 b9); clear b9)
   clear hW1 c0 c1 c2
   go_loopw [5] (fun i wr => ∃ k : Nat, k ≤ nW ∧ i = .int .i64 (k : Int) ∧ Below W1.heap.size W1 wr ∧ Hid (∀ j, j < k → (kd != 0 && el ws j != 0) = false)) (fun i _ => nW - (intOf i).toNat)
   case atStart => exact ⟨0, Nat.zero_le _, rfl, HB9.out, Hd fun j hj => by omega⟩
   case round =>
    obtain ⟨k, hk, rfl, hbel, HO⟩ := hrel
    have HBE := Hd hbel
    obtain ⟨c0, c1, c2⟩ := blk3 (HX.out wr hbel)
    by_cases hlt : k < nW
    ·have hkI : (k : Int) < (nW : Int) := by omega
     obtain ⟨ad, rfl, _, d0⟩ := HCW.out wr (to_ HB0.out hbel) k hlt
     clear hbel
     obtain ⟨b1, hb1⟩ : ∃ b, (kd != 0) = b := ⟨_, rfl⟩
     obtain ⟨b2, hb2⟩ : ∃ b, (el ws k != 0) = b := ⟨_, rfl⟩
     by_cases hbb : (b1 && b2) = true
     ·have HR := Hd (show chkD kd ws nS rs ss = 2 from by
       rw [Bool.and_eq_true] at hbb
       rw [HV2.out, hb1, hbb.1, nz_first (by rw [HWL.out]; exact hlt) (hb2.trans hbb.2)]; rfl)
      rw [Bool.and_eq_true] at hbb
      obtain ⟨rfl, rfl⟩ := hbb
      generalize el ws k = x at d0 hb2
      go_wp2_with fail
      go_ret
      exact ⟨by rw [HR.out]; rfl, to_ HB0.out HBE.out⟩
     ·have hbf : (b1 && b2) = false := by simpa using hbb
      have HO2 := Hd (show ∀ j, j < k + 1 → (kd != 0 && el ws j != 0) = false from fun j hj => by
       by_cases e : j = k
       ·subst e; rw [hb1, hb2]; exact hbf
       ·exact HO.out j (by omega))
      clear hbb HO
      generalize el ws k = x at d0 hb2
      cases b1
      rotate_left
      focus
       have hb2' : b2 = false := by simpa using hbf
       subst hb2'
      rotate_left
      all_goals
       clear hbf
       go_wp2_with fail
       go_roundw
       case rel => exact ⟨k + 1, by omega, by go_num, HBE.out, HO2⟩
       case measure => simp [intOf]; omega
    ·obtain rfl : k = nW := by omega
     have HNZ := Hd (show (kd != 0 && nzB ws) = false from by
      cases hb : (kd != 0) with
      | false => rfl
      | true =>
       rw [nz_none fun j hj => ?_]; rfl
       have := HO.out j (by rw [HWL.out] at hj; exact hj)
       rw [hb] at this; simpa using this)
     have HR := Hd (show chkD kd ws nS rs ss = firF (fE kd k nS rs ss) 0 nR from by rw [HV2.out, HNZ.out]; rfl)
     have HKK := Hd (show kd ≠ 0 → 1 ≤ kd ∧ kd ≤ 8 from fun h => by have h9 := HKB.out; unfold Si.kindB at h9; rw [decide_eq_true_eq] at h9; omega)
     clear hk hlt
     go_wp2_with fail
     clear c0 c1 c2
     obtain ⟨wq, hwq⟩ : ∃ wq, wq = wr := ⟨_, rfl⟩
     subst hwq
     go_loopw [6] (fun i wr => ∃ q : Nat, q ≤ nR ∧ i = .int .i64 (q : Int) ∧ Below W1.heap.size W1 wr ∧ Hid (∀ j, j < q → fE kd k nS rs ss j = 0)) (fun i _ => nR - (intOf i).toNat)
     case atStart => exact ⟨0, Nat.zero_le _, rfl, hbel, Hd fun j hj => by omega⟩
     case round =>
      obtain ⟨q, hq, rfl, hbel2, HO2⟩ := hrel
      have HBE2 := Hd hbel2
      obtain ⟨c0, c1, c2⟩ := blk3 (HX.out wr hbel2)
      by_cases hlt : q < nR
      ·have hqI : (q : Int) < (nR : Int) := by omega
       have hq0 : 0 ≤ (q : Int) := by omega
       obtain ⟨ad, hAR, _, d0, d1, d2⟩ := HCR.out wr (to_ HB0.out hbel2) q hlt
       have HAR := Hd hAR
       obtain ⟨x, hx⟩ : ∃ x, rlAt rs q = x := ⟨_, rfl⟩
       have HXX := Hd hx
       rw [hx] at d0 d1 d2
       obtain ⟨x0, x1, x2⟩ := x
       have hx0 : (rlAt rs q).1 = x0 := by rw [hx]
       have hx1 : (rlAt rs q).2.1 = x1 := by rw [hx]
       have HX0 := Hd hx0
       have HX1 := Hd hx1
       obtain ⟨w1, hw1⟩ : ∃ w1, wr.alloc (.cells #[.int .i64 x0, .int .i64 x1, .bool x2] 114) = w1 := ⟨_, rfl⟩
       have hz : Blk w1 wr.heap.size 114 #[.int .i64 x0, .int .i64 x1, .bool x2] := by rw [← hw1]; exact Blk.new wr _ _
       have HB1 := Hd (show Below W1.heap.size W1 w1 from by rw [← hw1]; exact to_ hbel2 (alloc_ _ _))
       obtain ⟨z0, z1, z2⟩ := blk3 hz
       obtain ⟨e0, e1, e2⟩ := blk3 (HX.out w1 HB1.out)
       subst hAR
       clear hbel2 hx hx0 hx1 hz hbel
       by_cases hk0 : kd = 0
       ·have HL1 := Hd (f11_1 (nW := k) (nS := nS) (rs := rs) (ss := ss) (i := q) hk0)
        have hkb : (kd == 0) = true := by simpa using hk0
        clear hk0
        have HF := Hd (show chkD kd ws nS rs ss = 11 from by rw [HR.out, fir_bad hlt HO2.out (by rw [HL1.out]; decide), HL1.out])
        clear HO2
        go_wp2_with fail
        clear hw1
        refine wp_region_noPanic ?_
        refine wp_region_held_drew (S := fun W => W.cell? ⟨w.heap.size, 0, none⟩ = some (.int .i64 kd) ∧ W.cell? ⟨w.heap.size, 1, none⟩ = some (.slice AW k cW) ∧ W.cell? ⟨w.heap.size, 2, none⟩ = some (.slice (some ad) nR cR) ∧ W.cell? ⟨wr.heap.size, 0, none⟩ = some (.int .i64 x0) ∧ W.cell? ⟨wr.heap.size, 1, none⟩ = some (.int .i64 x1)) (by kernel_rfl) (⟨e0, e1, e2, z0, z1⟩) (fun hHeld => ?_)
        refine tk4Z 0 1 2 3 hHeld ?_
        refine tf3Z 4 5 6 hHeld ?_
        refine tk2Z 7 8 hHeld ?_
        refine tf6Z 9 10 11 12 13 14 hHeld ?_
        refine tk2Z 15 16 hHeld ?_
        refine tf8Z 17 18 19 20 21 22 23 24 hHeld ?_
        refine tf6Z 25 26 27 28 29 30 hHeld ?_
        refine tk2Z 31 32 hHeld ?_
        refine tf3Z 33 34 35 hHeld ?_
        refine tk2Z 36 37 hHeld ?_
        refine tf5Z 38 39 40 41 42 hHeld ?_
        refine tk1Z 43 hHeld ?_
        refine wpAnyH_done (by kernel_rfl) ?_ _
        refine NoPanic.normal ?_
        go_wp2_with fail
        go_ret
        exact ⟨by rw [HF.out]; rfl, to_ HB0.out (to_ HB1.out (drew_below w1))⟩
       ·have hkb : (kd == 0) = false := by simpa using hk0
        have HK8 := Hd (HKK.out hk0)
        clear hk0
        by_cases ha0 : x0 < 0
        ·have HL1 := Hd (f11_2 (kd := kd) (nW := k) (nS := nS) (rs := rs) (ss := ss) (i := q) (by rw [HX0.out]; exact ha0))
         have hb0 : decide (x0 < 0) = true := decide_eq_true ha0
         have HF := Hd (show chkD kd ws nS rs ss = 11 from by rw [HR.out, fir_bad hlt HO2.out (by rw [HL1.out]; decide), HL1.out])
         clear HO2
         go_wp2_with fail
         clear hw1
         refine wp_region_noPanic ?_
         refine wp_region_held_drew (S := fun W => W.cell? ⟨w.heap.size, 0, none⟩ = some (.int .i64 kd) ∧ W.cell? ⟨w.heap.size, 1, none⟩ = some (.slice AW k cW) ∧ W.cell? ⟨w.heap.size, 2, none⟩ = some (.slice (some ad) nR cR) ∧ W.cell? ⟨wr.heap.size, 0, none⟩ = some (.int .i64 x0) ∧ W.cell? ⟨wr.heap.size, 1, none⟩ = some (.int .i64 x1)) (by kernel_rfl) (⟨e0, e1, e2, z0, z1⟩) (fun hHeld => ?_)
         refine tk8Z 0 1 2 3 4 5 6 7 hHeld ?_
         refine tk1Z 8 hHeld ?_
         refine tf6Z 9 10 11 12 13 14 hHeld ?_
         refine tk2Z 15 16 hHeld ?_
         refine tf8Z 17 18 19 20 21 22 23 24 hHeld ?_
         refine tf6Z 25 26 27 28 29 30 hHeld ?_
         refine tk2Z 31 32 hHeld ?_
         refine tf3Z 33 34 35 hHeld ?_
         refine tk2Z 36 37 hHeld ?_
         refine tf5Z 38 39 40 41 42 hHeld ?_
         refine tk1Z 43 hHeld ?_
         refine wpAnyH_done (by kernel_rfl) ?_ _
         refine NoPanic.normal ?_
         go_wp2_with fail
         go_ret
         exact ⟨by rw [HF.out]; rfl, to_ HB0.out (to_ HB1.out (drew_below w1))⟩
        ·have hb0 : decide (x0 < 0) = false := decide_eq_false ha0
         by_cases ha1 : (k : Int) ≤ x0
         ·have HL1 := Hd (f11_3 (kd := kd) (nW := k) (nS := nS) (rs := rs) (ss := ss) (i := q) (by rw [HX0.out]; exact ha1))
          have hb1 : decide ((k : Int) ≤ x0) = true := decide_eq_true ha1
          have HF := Hd (show chkD kd ws nS rs ss = 11 from by rw [HR.out, fir_bad hlt HO2.out (by rw [HL1.out]; decide), HL1.out])
          clear HO2
          go_wp2_with fail
          clear hw1
          refine wp_region_noPanic ?_
          refine wp_region_held_drew (S := fun W => W.cell? ⟨w.heap.size, 0, none⟩ = some (.int .i64 kd) ∧ W.cell? ⟨w.heap.size, 1, none⟩ = some (.slice AW k cW) ∧ W.cell? ⟨w.heap.size, 2, none⟩ = some (.slice (some ad) nR cR) ∧ W.cell? ⟨wr.heap.size, 0, none⟩ = some (.int .i64 x0) ∧ W.cell? ⟨wr.heap.size, 1, none⟩ = some (.int .i64 x1)) (by kernel_rfl) (⟨e0, e1, e2, z0, z1⟩) (fun hHeld => ?_)
          refine tk8Z 0 1 2 3 4 5 6 7 hHeld ?_
          refine tk8Z 8 9 10 11 12 13 14 15 hHeld ?_
          refine tk1Z 16 hHeld ?_
          refine tf8Z 17 18 19 20 21 22 23 24 hHeld ?_
          refine tf6Z 25 26 27 28 29 30 hHeld ?_
          refine tk2Z 31 32 hHeld ?_
          refine tf3Z 33 34 35 hHeld ?_
          refine tk2Z 36 37 hHeld ?_
          refine tf5Z 38 39 40 41 42 hHeld ?_
          refine tk1Z 43 hHeld ?_
          refine wpAnyH_done (by kernel_rfl) ?_ _
          refine NoPanic.normal ?_
          go_wp2_with fail
          go_ret
          exact ⟨by rw [HF.out]; rfl, to_ HB0.out (to_ HB1.out (drew_below w1))⟩
         ·have hb1 : decide ((k : Int) ≤ x0) = false := decide_eq_false ha1
          by_cases hq1 : q = 0
          ·have HQ0 := Hd hq1
           have hqn : ¬ 0 < q := by omega
           clear hq1
           by_cases ha3 : x1 < 0
           ·have HL1 := Hd (f11_5 (kd := kd) (nW := k) (nS := nS) (rs := rs) (ss := ss) (i := q) (by rw [HX1.out]; exact ha3))
            have hb3 : decide (x1 < 0) = true := decide_eq_true ha3
            have HF := Hd (show chkD kd ws nS rs ss = 11 from by rw [HR.out, fir_bad hlt HO2.out (by rw [HL1.out]; decide), HL1.out])
            clear HO2
            go_wp2_with fail
            clear hw1
            refine wp_region_noPanic ?_
            refine wp_region_held_drew (S := fun W => W.cell? ⟨w.heap.size, 0, none⟩ = some (.int .i64 kd) ∧ W.cell? ⟨w.heap.size, 1, none⟩ = some (.slice AW k cW) ∧ W.cell? ⟨w.heap.size, 2, none⟩ = some (.slice (some ad) nR cR) ∧ W.cell? ⟨wr.heap.size, 0, none⟩ = some (.int .i64 x0) ∧ W.cell? ⟨wr.heap.size, 1, none⟩ = some (.int .i64 x1)) (by kernel_rfl) (⟨e0, e1, e2, z0, z1⟩) (fun hHeld => ?_)
            refine tk8Z 0 1 2 3 4 5 6 7 hHeld ?_
            refine tk8Z 8 9 10 11 12 13 14 15 hHeld ?_
            refine tk4Z 16 17 18 19 hHeld ?_
            refine tf8Z 20 21 22 23 24 25 26 27 hHeld ?_
            refine tf2Z 28 29 hHeld ?_
            refine tk8Z 30 31 32 33 34 35 36 37 hHeld ?_
            refine tf5Z 38 39 40 41 42 hHeld ?_
            refine tk1Z 43 hHeld ?_
            refine wpAnyH_done (by kernel_rfl) ?_ _
            refine NoPanic.normal ?_
            go_wp2_with fail
            go_ret
            exact ⟨by rw [HF.out]; rfl, to_ HB0.out (to_ HB1.out (drew_below w1))⟩
           ·have hb3 : decide (x1 < 0) = false := decide_eq_false ha3
            by_cases ha4 : (nS : Int) ≤ x1
            ·have HL1 := Hd (f11_6 (kd := kd) (nW := k) (nS := nS) (rs := rs) (ss := ss) (i := q) (by rw [HX1.out]; exact ha4))
             have hb4 : decide ((nS : Int) ≤ x1) = true := decide_eq_true ha4
             have HF := Hd (show chkD kd ws nS rs ss = 11 from by rw [HR.out, fir_bad hlt HO2.out (by rw [HL1.out]; decide), HL1.out])
             clear HO2
             go_wp2_with fail
             clear hw1
             refine wp_region_noPanic ?_
             refine wp_region_held_drew (S := fun W => W.cell? ⟨w.heap.size, 0, none⟩ = some (.int .i64 kd) ∧ W.cell? ⟨w.heap.size, 1, none⟩ = some (.slice AW k cW) ∧ W.cell? ⟨w.heap.size, 2, none⟩ = some (.slice (some ad) nR cR) ∧ W.cell? ⟨wr.heap.size, 0, none⟩ = some (.int .i64 x0) ∧ W.cell? ⟨wr.heap.size, 1, none⟩ = some (.int .i64 x1)) (by kernel_rfl) (⟨e0, e1, e2, z0, z1⟩) (fun hHeld => ?_)
             refine tk8Z 0 1 2 3 4 5 6 7 hHeld ?_
             refine tk8Z 8 9 10 11 12 13 14 15 hHeld ?_
             refine tk4Z 16 17 18 19 hHeld ?_
             refine tf8Z 20 21 22 23 24 25 26 27 hHeld ?_
             refine tf2Z 28 29 hHeld ?_
             refine tk8Z 30 31 32 33 34 35 36 37 hHeld ?_
             refine tk6Z 38 39 40 41 42 43 hHeld ?_
             refine wpAnyH_done (by kernel_rfl) ?_ _
             refine NoPanic.normal ?_
             go_wp2_with fail
             go_ret
             exact ⟨by rw [HF.out]; rfl, to_ HB0.out (to_ HB1.out (drew_below w1))⟩
            ·have hb4 : decide ((nS : Int) ≤ x1) = false := decide_eq_false ha4
             obtain ⟨m, rfl⟩ : ∃ m : Nat, x1 = (m : Int) := ⟨x1.toNat, by omega⟩
             have hmn : m < nS := by omega
             have hmI : (m : Int) < (nS : Int) := by omega
             have hm0 : 0 ≤ (m : Int) := by omega
             have HOK := Hd (f_ok (ss := ss) (nW := k) (nS := nS) HK8.out (by rw [HX0.out]; omega) (by rw [HX0.out]; omega) (.inl HQ0.out) (by rw [HX1.out]; omega) (by rw [HX1.out]; exact hmI))
             rw [c5_is HK8.out HX1.out] at HOK
             have hbs := to_ HB0.out HB1.out
             obtain ⟨ay, hAS, _, s0, s1, s2, s3, s4⟩ := HCS.out w1 hbs m hmn
             obtain ⟨y0, hy0⟩ : ∃ y, (syAt ss m).2.2.1 = y := ⟨_, rfl⟩
             obtain ⟨y1, hy1⟩ : ∃ y, (syAt ss m).2.2.2.1 = y := ⟨_, rfl⟩
             rw [hy0] at s2 HOK
             rw [hy1] at s3 HOK
             subst hAS
             have hwk : IntKind.i64.wrap (kd - 1) = kd - 1 := IntWalk.i64_in _ (by have := HK8.out; omega)
             have HDRS := Hd (show w1.drew.cell? ⟨(ay.add (m * 5)).block, (ay.add (m * 5)).off + 2, none⟩ = some (.int .i64 y0) ∧ w1.drew.cell? ⟨(ay.add (m * 5)).block, (ay.add (m * 5)).off + 3, none⟩ = some (.int .i64 y1) ∧ w1.drew.cell? ⟨w.heap.size, 0, none⟩ = some (.int .i64 kd) ∧ w1.drew.cell? ⟨wr.heap.size, 1, none⟩ = some (.int .i64 (m : Int)) from ⟨s2, s3, e0, z1⟩)
             clear hy0 hy1 s0 s1 s4 hbs hmn
             go_wp2_with fail
             clear hw1
             refine wp_region_noPanic ?_
             refine wp_region_held_drew (S := fun W => W.cell? ⟨w.heap.size, 0, none⟩ = some (.int .i64 kd) ∧ W.cell? ⟨w.heap.size, 1, none⟩ = some (.slice AW k cW) ∧ W.cell? ⟨w.heap.size, 2, none⟩ = some (.slice (some ad) nR cR) ∧ W.cell? ⟨wr.heap.size, 0, none⟩ = some (.int .i64 x0) ∧ W.cell? ⟨wr.heap.size, 1, none⟩ = some (.int .i64 (m : Int))) (by kernel_rfl) (⟨e0, e1, e2, z0, z1⟩) (fun hHeld => ?_)
             refine tk8Z 0 1 2 3 4 5 6 7 hHeld ?_
             refine tk8Z 8 9 10 11 12 13 14 15 hHeld ?_
             refine tk4Z 16 17 18 19 hHeld ?_
             refine tf8Z 20 21 22 23 24 25 26 27 hHeld ?_
             refine tf2Z 28 29 hHeld ?_
             refine tk8Z 30 31 32 33 34 35 36 37 hHeld ?_
             refine tk6Z 38 39 40 41 42 43 hHeld ?_
             refine wpAnyH_done (by kernel_rfl) ?_ _
             refine NoPanic.normal ?_
             by_cases hs0 : y0 = 1
             ·have hsb : (y0 != 1) = false := by simpa using hs0
              have hsc : (y0 == 1) = true := by simpa using hs0
              by_cases hs1 : y1 = kd - 1
              ·have hsd : (y1 != kd - 1) = false := by simpa using hs1
               have HZ := Hd (show fE kd k nS rs ss q = 0 from by rw [HOK.out, hsc, show (y1 == kd - 1) = true from by simpa using hs1]; rfl)
               clear hs0 hs1 HOK
               go_wp2_with fail
               refine wp_region_noPanic ?_
               refine wp_region_held_drew (S := fun W => W.cell? ⟨(ay.add (m * 5)).block, (ay.add (m * 5)).off + 2, none⟩ = some (.int .i64 y0) ∧ W.cell? ⟨(ay.add (m * 5)).block, (ay.add (m * 5)).off + 3, none⟩ = some (.int .i64 y1) ∧ W.cell? ⟨w.heap.size, 0, none⟩ = some (.int .i64 kd) ∧ W.cell? ⟨wr.heap.size, 1, none⟩ = some (.int .i64 (m : Int))) (by kernel_rfl) (HDRS.out) (fun hHeld => ?_)
               refine tk8Z 0 1 2 3 4 5 6 7 hHeld ?_
               refine tk8Z 8 9 10 11 12 13 14 15 hHeld ?_
               refine tk3Z 16 17 18 hHeld ?_
               refine wpAnyH_done (by kernel_rfl) ?_ _
               refine NoPanic.normal ?_
               go_wp2_with fail
               go_roundw
               case rel =>
                refine ⟨q + 1, by omega, by go_num, to_ (to_ HB1.out (drew_below w1)) (drew_below w1.drew), Hd fun j hj => ?_⟩
                by_cases e : j = q
                ·subst e; exact HZ.out
                ·exact HO2.out j (by omega)
               case measure => simp [intOf]; omega
              ·have hsd : (y1 != kd - 1) = true := by simpa using hs1
               have HZ := Hd (show fE kd k nS rs ss q = 8 from by rw [HOK.out, hsc, show (y1 == kd - 1) = false from by simpa using hs1]; rfl)
               have HF := Hd (show chkD kd ws nS rs ss = 8 from by rw [HR.out, fir_bad hlt HO2.out (by rw [HZ.out]; decide), HZ.out])
               clear hs0 hs1 HOK HO2
               go_wp2_with fail
               refine wp_region_noPanic ?_
               refine wp_region_held_drew (S := fun W => W.cell? ⟨(ay.add (m * 5)).block, (ay.add (m * 5)).off + 2, none⟩ = some (.int .i64 y0) ∧ W.cell? ⟨(ay.add (m * 5)).block, (ay.add (m * 5)).off + 3, none⟩ = some (.int .i64 y1) ∧ W.cell? ⟨w.heap.size, 0, none⟩ = some (.int .i64 kd) ∧ W.cell? ⟨wr.heap.size, 1, none⟩ = some (.int .i64 (m : Int))) (by kernel_rfl) (HDRS.out) (fun hHeld => ?_)
               refine tk8Z 0 1 2 3 4 5 6 7 hHeld ?_
               refine tk8Z 8 9 10 11 12 13 14 15 hHeld ?_
               refine tk3Z 16 17 18 hHeld ?_
               refine wpAnyH_done (by kernel_rfl) ?_ _
               refine NoPanic.normal ?_
               go_wp2_with fail
               go_ret
               exact ⟨by rw [HF.out]; rfl, to_ HB0.out (to_ (to_ HB1.out (drew_below w1)) (drew_below w1.drew))⟩
             ·have hsb : (y0 != 1) = true := by simpa using hs0
              have HZ := Hd (show fE kd k nS rs ss q = 8 from by rw [HOK.out, show (y0 == 1) = false from by simpa using hs0]; rfl)
              have HF := Hd (show chkD kd ws nS rs ss = 8 from by rw [HR.out, fir_bad hlt HO2.out (by rw [HZ.out]; decide), HZ.out])
              clear hs0 HOK HO2
              go_wp2_with fail
              refine wp_region_noPanic ?_
              refine wp_region_held_drew (S := fun W => W.cell? ⟨(ay.add (m * 5)).block, (ay.add (m * 5)).off + 2, none⟩ = some (.int .i64 y0) ∧ W.cell? ⟨(ay.add (m * 5)).block, (ay.add (m * 5)).off + 3, none⟩ = some (.int .i64 y1) ∧ W.cell? ⟨w.heap.size, 0, none⟩ = some (.int .i64 kd) ∧ W.cell? ⟨wr.heap.size, 1, none⟩ = some (.int .i64 (m : Int))) (by kernel_rfl) (HDRS.out) (fun hHeld => ?_)
              refine tk8Z 0 1 2 3 4 5 6 7 hHeld ?_
              refine tf8Z 8 9 10 11 12 13 14 15 hHeld ?_
              refine tf2Z 16 17 hHeld ?_
              refine tk1Z 18 hHeld ?_
              refine wpAnyH_done (by kernel_rfl) ?_ _
              refine NoPanic.normal ?_
              go_wp2_with fail
              go_ret
              exact ⟨by rw [HF.out]; rfl, to_ HB0.out (to_ (to_ HB1.out (drew_below w1)) (drew_below w1.drew))⟩
          ·obtain ⟨j, hj⟩ : ∃ j, q = j + 1 := ⟨q - 1, by omega⟩
           obtain ⟨ad2, e9, _, f0, _⟩ := HCR.out w1 (to_ HB0.out HB1.out) j (by omega)
           injection e9 with e9
           subst e9
           have HJ := Hd (show (rlAt rs (q - 1)).1 = (rlAt rs j).1 from by rw [hj]; rfl)
           have hqn : 0 < q := by omega
           have hj1 : (j : Int) < (nR : Int) := by omega
           have hj0 : 0 ≤ (j : Int) := by omega
           have hwq : IntKind.i64.wrap ((q : Int) - 1) = (j : Int) := by rw [show (q : Int) - 1 = (j : Int) by omega]; exact IntWalk.i64_in _ (by omega)
           generalize (rlAt rs j).1 = p0 at f0 HJ
           clear hj hq1
           by_cases ha2 : x0 ≤ p0
           ·have HL1 := Hd (f11_4 (kd := kd) (nW := k) (nS := nS) (rs := rs) (ss := ss) (i := q) hqn (by rw [HX0.out, HJ.out]; exact ha2))
            have hb2 : decide (x0 ≤ p0) = true := decide_eq_true ha2
            have HF := Hd (show chkD kd ws nS rs ss = 11 from by rw [HR.out, fir_bad hlt HO2.out (by rw [HL1.out]; decide), HL1.out])
            clear HO2
            go_wp2_with fail
            clear hw1
            refine wp_region_noPanic ?_
            refine wp_region_held_drew (S := fun W => W.cell? ⟨w.heap.size, 0, none⟩ = some (.int .i64 kd) ∧ W.cell? ⟨w.heap.size, 1, none⟩ = some (.slice AW k cW) ∧ W.cell? ⟨w.heap.size, 2, none⟩ = some (.slice (some ad) nR cR) ∧ W.cell? ⟨wr.heap.size, 0, none⟩ = some (.int .i64 x0) ∧ W.cell? ⟨wr.heap.size, 1, none⟩ = some (.int .i64 x1) ∧ W.cell? (ad.add (j * 3)) = some (.int .i64 p0)) (by kernel_rfl) (⟨e0, e1, e2, z0, z1, f0⟩) (fun hHeld => ?_)
            refine tk8Z 0 1 2 3 4 5 6 7 hHeld ?_
            refine tk8Z 8 9 10 11 12 13 14 15 hHeld ?_
            refine tk8Z 16 17 18 19 20 21 22 23 hHeld ?_
            refine tk8Z 24 25 26 27 28 29 30 31 hHeld ?_
            refine tk1Z 32 hHeld ?_
            refine tf3Z 33 34 35 hHeld ?_
            refine tk2Z 36 37 hHeld ?_
            refine tf5Z 38 39 40 41 42 hHeld ?_
            refine tk1Z 43 hHeld ?_
            refine wpAnyH_done (by kernel_rfl) ?_ _
            refine NoPanic.normal ?_
            go_wp2_with fail
            go_ret
            exact ⟨by rw [HF.out]; rfl, to_ HB0.out (to_ HB1.out (drew_below w1))⟩
           ·have hb2 : decide (x0 ≤ p0) = false := decide_eq_false ha2
            by_cases ha3 : x1 < 0
            ·have HL1 := Hd (f11_5 (kd := kd) (nW := k) (nS := nS) (rs := rs) (ss := ss) (i := q) (by rw [HX1.out]; exact ha3))
             have hb3 : decide (x1 < 0) = true := decide_eq_true ha3
             have HF := Hd (show chkD kd ws nS rs ss = 11 from by rw [HR.out, fir_bad hlt HO2.out (by rw [HL1.out]; decide), HL1.out])
             clear HO2
             go_wp2_with fail
             clear hw1
             refine wp_region_noPanic ?_
             refine wp_region_held_drew (S := fun W => W.cell? ⟨w.heap.size, 0, none⟩ = some (.int .i64 kd) ∧ W.cell? ⟨w.heap.size, 1, none⟩ = some (.slice AW k cW) ∧ W.cell? ⟨w.heap.size, 2, none⟩ = some (.slice (some ad) nR cR) ∧ W.cell? ⟨wr.heap.size, 0, none⟩ = some (.int .i64 x0) ∧ W.cell? ⟨wr.heap.size, 1, none⟩ = some (.int .i64 x1) ∧ W.cell? (ad.add (j * 3)) = some (.int .i64 p0)) (by kernel_rfl) (⟨e0, e1, e2, z0, z1, f0⟩) (fun hHeld => ?_)
             refine tk8Z 0 1 2 3 4 5 6 7 hHeld ?_
             refine tk8Z 8 9 10 11 12 13 14 15 hHeld ?_
             refine tk8Z 16 17 18 19 20 21 22 23 hHeld ?_
             refine tk8Z 24 25 26 27 28 29 30 31 hHeld ?_
             refine tk6Z 32 33 34 35 36 37 hHeld ?_
             refine tf5Z 38 39 40 41 42 hHeld ?_
             refine tk1Z 43 hHeld ?_
             refine wpAnyH_done (by kernel_rfl) ?_ _
             refine NoPanic.normal ?_
             go_wp2_with fail
             go_ret
             exact ⟨by rw [HF.out]; rfl, to_ HB0.out (to_ HB1.out (drew_below w1))⟩
            ·have hb3 : decide (x1 < 0) = false := decide_eq_false ha3
             by_cases ha4 : (nS : Int) ≤ x1
             ·have HL1 := Hd (f11_6 (kd := kd) (nW := k) (nS := nS) (rs := rs) (ss := ss) (i := q) (by rw [HX1.out]; exact ha4))
              have hb4 : decide ((nS : Int) ≤ x1) = true := decide_eq_true ha4
              have HF := Hd (show chkD kd ws nS rs ss = 11 from by rw [HR.out, fir_bad hlt HO2.out (by rw [HL1.out]; decide), HL1.out])
              clear HO2
              go_wp2_with fail
              clear hw1
              refine wp_region_noPanic ?_
              refine wp_region_held_drew (S := fun W => W.cell? ⟨w.heap.size, 0, none⟩ = some (.int .i64 kd) ∧ W.cell? ⟨w.heap.size, 1, none⟩ = some (.slice AW k cW) ∧ W.cell? ⟨w.heap.size, 2, none⟩ = some (.slice (some ad) nR cR) ∧ W.cell? ⟨wr.heap.size, 0, none⟩ = some (.int .i64 x0) ∧ W.cell? ⟨wr.heap.size, 1, none⟩ = some (.int .i64 x1) ∧ W.cell? (ad.add (j * 3)) = some (.int .i64 p0)) (by kernel_rfl) (⟨e0, e1, e2, z0, z1, f0⟩) (fun hHeld => ?_)
              refine tk8Z 0 1 2 3 4 5 6 7 hHeld ?_
              refine tk8Z 8 9 10 11 12 13 14 15 hHeld ?_
              refine tk8Z 16 17 18 19 20 21 22 23 hHeld ?_
              refine tk8Z 24 25 26 27 28 29 30 31 hHeld ?_
              refine tk8Z 32 33 34 35 36 37 38 39 hHeld ?_
              refine tk4Z 40 41 42 43 hHeld ?_
              refine wpAnyH_done (by kernel_rfl) ?_ _
              refine NoPanic.normal ?_
              go_wp2_with fail
              go_ret
              exact ⟨by rw [HF.out]; rfl, to_ HB0.out (to_ HB1.out (drew_below w1))⟩
             ·have hb4 : decide ((nS : Int) ≤ x1) = false := decide_eq_false ha4
              obtain ⟨m, rfl⟩ : ∃ m : Nat, x1 = (m : Int) := ⟨x1.toNat, by omega⟩
              have hmn : m < nS := by omega
              have hmI : (m : Int) < (nS : Int) := by omega
              have hm0 : 0 ≤ (m : Int) := by omega
              have HOK := Hd (f_ok (ss := ss) (nW := k) (nS := nS) HK8.out (by rw [HX0.out]; omega) (by rw [HX0.out]; omega) (.inr (by rw [HX0.out, HJ.out]; omega)) (by rw [HX1.out]; omega) (by rw [HX1.out]; exact hmI))
              rw [c5_is HK8.out HX1.out] at HOK
              have hbs := to_ HB0.out HB1.out
              obtain ⟨ay, hAS, _, s0, s1, s2, s3, s4⟩ := HCS.out w1 hbs m hmn
              obtain ⟨y0, hy0⟩ : ∃ y, (syAt ss m).2.2.1 = y := ⟨_, rfl⟩
              obtain ⟨y1, hy1⟩ : ∃ y, (syAt ss m).2.2.2.1 = y := ⟨_, rfl⟩
              rw [hy0] at s2 HOK
              rw [hy1] at s3 HOK
              subst hAS
              have hwk : IntKind.i64.wrap (kd - 1) = kd - 1 := IntWalk.i64_in _ (by have := HK8.out; omega)
              have HDRS := Hd (show w1.drew.cell? ⟨(ay.add (m * 5)).block, (ay.add (m * 5)).off + 2, none⟩ = some (.int .i64 y0) ∧ w1.drew.cell? ⟨(ay.add (m * 5)).block, (ay.add (m * 5)).off + 3, none⟩ = some (.int .i64 y1) ∧ w1.drew.cell? ⟨w.heap.size, 0, none⟩ = some (.int .i64 kd) ∧ w1.drew.cell? ⟨wr.heap.size, 1, none⟩ = some (.int .i64 (m : Int)) from ⟨s2, s3, e0, z1⟩)
              clear hy0 hy1 s0 s1 s4 hbs hmn
              go_wp2_with fail
              clear hw1
              refine wp_region_noPanic ?_
              refine wp_region_held_drew (S := fun W => W.cell? ⟨w.heap.size, 0, none⟩ = some (.int .i64 kd) ∧ W.cell? ⟨w.heap.size, 1, none⟩ = some (.slice AW k cW) ∧ W.cell? ⟨w.heap.size, 2, none⟩ = some (.slice (some ad) nR cR) ∧ W.cell? ⟨wr.heap.size, 0, none⟩ = some (.int .i64 x0) ∧ W.cell? ⟨wr.heap.size, 1, none⟩ = some (.int .i64 (m : Int)) ∧ W.cell? (ad.add (j * 3)) = some (.int .i64 p0)) (by kernel_rfl) (⟨e0, e1, e2, z0, z1, f0⟩) (fun hHeld => ?_)
              refine tk8Z 0 1 2 3 4 5 6 7 hHeld ?_
              refine tk8Z 8 9 10 11 12 13 14 15 hHeld ?_
              refine tk8Z 16 17 18 19 20 21 22 23 hHeld ?_
              refine tk8Z 24 25 26 27 28 29 30 31 hHeld ?_
              refine tk8Z 32 33 34 35 36 37 38 39 hHeld ?_
              refine tk4Z 40 41 42 43 hHeld ?_
              refine wpAnyH_done (by kernel_rfl) ?_ _
              refine NoPanic.normal ?_
              by_cases hs0 : y0 = 1
              ·have hsb : (y0 != 1) = false := by simpa using hs0
               have hsc : (y0 == 1) = true := by simpa using hs0
               by_cases hs1 : y1 = kd - 1
               ·have hsd : (y1 != kd - 1) = false := by simpa using hs1
                have HZ := Hd (show fE kd k nS rs ss q = 0 from by rw [HOK.out, hsc, show (y1 == kd - 1) = true from by simpa using hs1]; rfl)
                clear hs0 hs1 HOK
                go_wp2_with fail
                refine wp_region_noPanic ?_
                refine wp_region_held_drew (S := fun W => W.cell? ⟨(ay.add (m * 5)).block, (ay.add (m * 5)).off + 2, none⟩ = some (.int .i64 y0) ∧ W.cell? ⟨(ay.add (m * 5)).block, (ay.add (m * 5)).off + 3, none⟩ = some (.int .i64 y1) ∧ W.cell? ⟨w.heap.size, 0, none⟩ = some (.int .i64 kd) ∧ W.cell? ⟨wr.heap.size, 1, none⟩ = some (.int .i64 (m : Int))) (by kernel_rfl) (HDRS.out) (fun hHeld => ?_)
                refine tk8Z 0 1 2 3 4 5 6 7 hHeld ?_
                refine tk8Z 8 9 10 11 12 13 14 15 hHeld ?_
                refine tk3Z 16 17 18 hHeld ?_
                refine wpAnyH_done (by kernel_rfl) ?_ _
                refine NoPanic.normal ?_
                go_wp2_with fail
                go_roundw
                case rel =>
                 refine ⟨q + 1, by omega, by go_num, to_ (to_ HB1.out (drew_below w1)) (drew_below w1.drew), Hd fun j hj => ?_⟩
                 by_cases e : j = q
                 ·subst e; exact HZ.out
                 ·exact HO2.out j (by omega)
                case measure => simp [intOf]; omega
               ·have hsd : (y1 != kd - 1) = true := by simpa using hs1
                have HZ := Hd (show fE kd k nS rs ss q = 8 from by rw [HOK.out, hsc, show (y1 == kd - 1) = false from by simpa using hs1]; rfl)
                have HF := Hd (show chkD kd ws nS rs ss = 8 from by rw [HR.out, fir_bad hlt HO2.out (by rw [HZ.out]; decide), HZ.out])
                clear hs0 hs1 HOK HO2
                go_wp2_with fail
                refine wp_region_noPanic ?_
                refine wp_region_held_drew (S := fun W => W.cell? ⟨(ay.add (m * 5)).block, (ay.add (m * 5)).off + 2, none⟩ = some (.int .i64 y0) ∧ W.cell? ⟨(ay.add (m * 5)).block, (ay.add (m * 5)).off + 3, none⟩ = some (.int .i64 y1) ∧ W.cell? ⟨w.heap.size, 0, none⟩ = some (.int .i64 kd) ∧ W.cell? ⟨wr.heap.size, 1, none⟩ = some (.int .i64 (m : Int))) (by kernel_rfl) (HDRS.out) (fun hHeld => ?_)
                refine tk8Z 0 1 2 3 4 5 6 7 hHeld ?_
                refine tk8Z 8 9 10 11 12 13 14 15 hHeld ?_
                refine tk3Z 16 17 18 hHeld ?_
                refine wpAnyH_done (by kernel_rfl) ?_ _
                refine NoPanic.normal ?_
                go_wp2_with fail
                go_ret
                exact ⟨by rw [HF.out]; rfl, to_ HB0.out (to_ (to_ HB1.out (drew_below w1)) (drew_below w1.drew))⟩
              ·have hsb : (y0 != 1) = true := by simpa using hs0
               have HZ := Hd (show fE kd k nS rs ss q = 8 from by rw [HOK.out, show (y0 == 1) = false from by simpa using hs0]; rfl)
               have HF := Hd (show chkD kd ws nS rs ss = 8 from by rw [HR.out, fir_bad hlt HO2.out (by rw [HZ.out]; decide), HZ.out])
               clear hs0 HOK HO2
               go_wp2_with fail
               refine wp_region_noPanic ?_
               refine wp_region_held_drew (S := fun W => W.cell? ⟨(ay.add (m * 5)).block, (ay.add (m * 5)).off + 2, none⟩ = some (.int .i64 y0) ∧ W.cell? ⟨(ay.add (m * 5)).block, (ay.add (m * 5)).off + 3, none⟩ = some (.int .i64 y1) ∧ W.cell? ⟨w.heap.size, 0, none⟩ = some (.int .i64 kd) ∧ W.cell? ⟨wr.heap.size, 1, none⟩ = some (.int .i64 (m : Int))) (by kernel_rfl) (HDRS.out) (fun hHeld => ?_)
               refine tk8Z 0 1 2 3 4 5 6 7 hHeld ?_
               refine tf8Z 8 9 10 11 12 13 14 15 hHeld ?_
               refine tf2Z 16 17 hHeld ?_
               refine tk1Z 18 hHeld ?_
               refine wpAnyH_done (by kernel_rfl) ?_ _
               refine NoPanic.normal ?_
               go_wp2_with fail
               go_ret
               exact ⟨by rw [HF.out]; rfl, to_ HB0.out (to_ (to_ HB1.out (drew_below w1)) (drew_below w1.drew))⟩
      ·obtain rfl : q = nR := by omega
       have HF := Hd (show chkD kd ws nS rs ss = 0 from by rw [HR.out, fir_all HO2.out])
       clear hbel2
       go_wp2_with fail
       go_ret
       exact ⟨by rw [HF.out]; rfl, to_ HB0.out HBE2.out⟩
end Go.Proofs.YtdaimeaofgbfpaaGreat.By
