/-
 WALKS of layer 25: isOne, refAt, referred, tidy, and what these hand on.
-/
import Derived.Test.YtnenmgefgdpkdaaGreatZa
import Derived.Test.YtnenmgefgdpkdaaGreatPj
import Derived.Test.YtnenmgefgdpkdaaGreatQp
namespace Go.Proofs.YtnenmgefgdpkdaaGreat.By
open Go.RowKit
open Mem Gm Rf
set_option maxHeartbeats 2000000 in
theorem ctidy_any (W : World) (rb base : Nat) (L : List (List Int)) (hown : OwnG W rb base 42 3 L) (hrb : rb < base) (hL : L.length ≤ 1000) (hR : ∀ i, (rowOf L i).length ≤ 1000000) :
  Calls Tryz.prog 99 #[.slice (some ⟨rb, 0, none⟩) L.length L.length] W fun e w' => e = .returned (.slice (some ⟨rb, 0, none⟩) L.length L.length) ∧ OwnG w' rb base 42 3 (L.map tidyRow) ∧ Keeps (fun k => k ≠ rb ∧ k < base) W w' := by
 obtain ⟨N, hN⟩ : ∃ N, L.length = N := ⟨_, rfl⟩
 have hall := tidyTo_all L
 rw [hN] at hL hall ⊢
 have HN := Lib.hid hN
 have HA := Lib.hid hall
 have h0 : OwnG W rb base 42 3 (tidyTo 0 L) := by simpa [tidyTo] using hown
 clear hN hall hown
 go_enter Tryz.func99, Tryz.ntmps99
 go_wp2
 go_loopw [7] (fun i wr => ∃ k : Nat, k ≤ N ∧ i = .int .i64 k ∧ OwnG wr rb base 42 3 (tidyTo k L) ∧ Keeps (fun k => k ≠ rb ∧ k < base) W wr) (fun i _ => N - (intOf i).toNat)
 case atStart => exact ⟨0, Nat.zero_le _, rfl, h0, Keeps.refl _ _⟩
 case round =>
  obtain ⟨k, hk, rfl, hO, hK⟩ := hrel
  by_cases hlt : k < N
  ·have hkL : k < L.length := by rw [HN.out]; exact hlt
   obtain ⟨rv, hcell, hfr, hone, hrow, ⟨RA, RC, hrv⟩, hput⟩ := hO.at_ hrb (a := k) (by rw [tidyTo_length]; exact hkL)
   have hlt' := hO.lt
   rw [tidyTo_row hkL] at hrow hrv
   have HP := Lib.hid hput
   have hnext := Lib.hid (tidyTo_next hkL)
   have hS := Lib.hid (sort_own wr base rv (rowOf L k) hrow (hR k))
   have HOB := Lib.hid (show ∀ r, rv.ownBlock = some r → base ≤ r from fun r e => (hrow.lt r e).1)
   have HNE : Hid (some rb ≠ rv.ownBlock) := fun e => by have := HOB.out rb e.symm; omega
   have HFR : Hid (wr.frozen? ⟨rb, k, none⟩ = false) := hfr
   subst hrv
   clear hput hO hone hrow hkL hfr
   go_wp2_with (first
    | (go_at_call 118; refine hS.out.mono ?_; rintro e w1 ⟨rfl, hown1, hg1⟩; have HO1 := Lib.hid hown1; have HG1 := Lib.hid hg1; clear hown1 hg1)
    | (go_at_call 132; refine (compact_own _ base _ _ HO1.out).mono ?_; rintro e w2 ⟨CA, CC, rfl, hown2, hg2, hob2⟩; have HO2 := Lib.hid hown2; have HG2 := Lib.hid hg2; have HB2 := Lib.hid hob2; have c2 := hg2.cell (HG1.out.cell hcell HNE.out) HNE.out; have f2 : w2.frozen? ⟨rb, k, none⟩ = false := ((World.frozen?_of_block ((hg2.block rb (Nat.lt_of_lt_of_le hlt' HG1.out.size) HNE.out).trans (HG1.out.block rb hlt' HNE.out))).trans HFR.out); clear hown2 hg2 hob2))
   have hg := only_two HG1.out HG2.out
   have hfin := HP.out _ (tidyRow (rowOf L k)) w2 rfl HO2.out (.inr (.inl HB2.out)) (fun q _ hq hne => hg.block q hq (fun e => hne e.symm))
   rw [hnext.out] at hfin
   have hKf : Keeps (fun k => k ≠ rb ∧ k < base) W (w2.setCell ⟨rb, k, none⟩ (.slice CA (tidyRow (rowOf L k)).length CC)) :=
    (hK.grown hg fun r e h => by have := HOB.out r e; omega).setCell (by simp) _
   go_roundw
   case rel => exact ⟨k + 1, by omega, by go_num, hfin, hKf⟩
   case measure => simp [intOf]; omega
  ·obtain rfl : k = N := by omega
   rw [HA.out] at hO
   go_wp2
   go_ret
   exact ⟨rfl, hO, hK⟩
end Go.Proofs.YtnenmgefgdpkdaaGreat.By
namespace Go.Proofs.YtnenmgefgdpkdaaGreat.Bo
open Go.RowKit Go.Maps
open Mem Rf
set_option linter.unusedSimpArgs false
set_option linter.unusedVariables false
def oneB (p n : Int) : Bool := decide (0 ≤ p) && decide (p < n)
theorem isOne_any (p n : Int) (w : World) : Calls Tryz.prog 63 #[.int .i64 p, .int .i64 n] w fun e w' => e = .returned (.bool (oneB p n)) ∧ w' = w := by
 unfold oneB
 by_cases h0 : 0 ≤ p
 ·have h0' : decide (0 ≤ p) = true := decide_eq_true h0
  by_cases h1 : p < n
  ·have h1' : decide (p < n) = true := decide_eq_true h1
   rw [h0', h1']
   go_enter Tryz.func63, Tryz.ntmps63
   go_wp2
   all_goals go_ret
   all_goals exact ⟨rfl, rfl⟩
  ·have h1' : decide (p < n) = false := decide_eq_false h1
   rw [h0', h1']
   go_enter Tryz.func63, Tryz.ntmps63
   go_wp2
   all_goals go_ret
   all_goals exact ⟨rfl, rfl⟩
 ·have h0' : decide (0 ≤ p) = false := decide_eq_false h0
  rw [h0', Bool.false_and]
  go_enter Tryz.func63, Tryz.ntmps63
  go_wp2
  all_goals go_ret
  all_goals exact ⟨rfl, rfl⟩
def rfA (l : List Int) (n i : Nat) : Int := if i < n then l.getD i 0 else -1
theorem refAt_any (w : World) (A : Option Addr) (n c : Nat) (l : List Int) (h : IL w A n c l) (i : Nat) : Calls Tryz.prog 98 #[.slice A n c, .int .i64 (i : Int)] w fun e w' => e = .returned (.int .i64 (rfA l n i)) ∧ w' = w := by
 unfold rfA
 by_cases hi : i < n
 ·rw [if_pos hi]
  obtain ⟨ad, rfl, _, z0⟩ := h.at_ hi
  have h1 : ¬ (n : Int) ≤ (i : Int) := by omega
  have h2 : (i : Int) < (n : Int) := by omega
  have h3 : (0 : Int) ≤ (i : Int) := by omega
  clear h hi
  generalize l.getD i 0 = z at *
  go_enter Tryz.func98, Tryz.ntmps98
  go_wp2_with fail
  go_ret
  exact ⟨rfl, rfl⟩
 ·rw [if_neg hi]
  have h1 : (n : Int) ≤ (i : Int) := by omega
  clear h hi
  go_enter Tryz.func98, Tryz.ntmps98
  go_wp2_with fail
  go_ret
  exact ⟨rfl, rfl⟩
theorem referred_any (m : Int) (w : World) : Calls Tryz.prog 53 #[.int .i64 m] w fun e w' => e = .returned (.func (.func 100) #[] #[.pointer (some ⟨w.heap.size, 0, none⟩)]) ∧ w' = w.alloc (.cells #[.int .i64 m] 3) := by
 go_enter Tryz.func53, Tryz.ntmps53
 go_wp2
 go_ret
 exact ⟨rfl, rfl⟩
def inV (x : By.In5) : Value := .agg #[.int .i64 x.1, .int .i64 x.2.1, .int .i64 x.2.2.1, .int .i64 x.2.2.2.1, .int .i64 x.2.2.2.2]
theorem ref1_any (x : By.In5) (r m : Int) (g : Nat) (w : World) (hg : w.cell? ⟨g, 0, none⟩ = some (.int .i64 m)) : Calls Tryz.prog 100 #[inV x, .int .i64 r, .pointer (some ⟨g, 0, none⟩)] w fun e w' => e = .returned (.tuple #[.int .i64 r, .bool (oneB r m)]) ∧ Below w.heap.size w w' := by
 have HI := Lib.hid (fun W => isOne_any r m W)
 have hz := World.block_lt_of_cell? w _ hg
 obtain ⟨x0, x1, x2, x3, x4⟩ := x
 unfold inV
 dsimp only
 generalize oneB r m = b at *
 go_enter Tryz.func100, Tryz.ntmps100
 go_wp2_with (go_at_call 63; refine (HI.out _).mono ?_; rintro e w2 ⟨rfl, rfl⟩)
 refine bodyPost_ret (v := .tuple #[.int .i64 r, .bool b]) (by simp [results, Tryz.results100, go_sem]) rfl ⟨rfl, alloc_ _ _⟩
theorem vias1_any (x : By.In5) (r : Int) (w : World) : Calls Tryz.prog 62 #[inV x, .int .i64 r] w fun e w' => e = .returned (.tuple #[.int .i64 x.2.2.2.1, .bool (oneB x.2.2.2.1 8)]) ∧ Below w.heap.size w w' := by
 have HI := Lib.hid (fun W => isOne_any x.2.2.2.1 8 W)
 obtain ⟨x0, x1, x2, x3, x4⟩ := x
 unfold inV
 dsimp only at HI ⊢
 generalize oneB x3 8 = b at *
 have hb := Blk.new w 51 #[.int .i64 x0, .int .i64 x1, .int .i64 x2, .int .i64 x3, .int .i64 x4]
 have c3 : (w.alloc (.cells #[.int .i64 x0, .int .i64 x1, .int .i64 x2, .int .i64 x3, .int .i64 x4] 51)).cell? ⟨w.heap.size, 3, none⟩ = some (.int .i64 x3) := hb.cell 3
 clear hb
 go_enter Tryz.func62, Tryz.ntmps62
 go_wp2_with fail
 go_quiet ((go_at_call 63; exact Calls.quiet_of_same (HI.out _)))
 go_wp2_with fail
 refine bodyPost_ret (v := .tuple #[.int .i64 x3, .bool b]) (by simp [results, Tryz.results62, go_sem]) rfl ⟨rfl, below_drewN (alloc_ _ _) _⟩
theorem contains_il (w : World) (A : Option Addr) (n c : Nat) (l : List Int) (x : Int) (h : IL w A n c l) (h0 : 0 < n) (hn : n ≤ 1000000) (g o : Nat) (hA : A = some ⟨g, o, none⟩) : Calls Tryz.prog 97 #[.slice A n c, .int .i64 x] w fun e w' => e = .returned (.bool (l.contains x)) ∧ w' = w := by
 subst hA
 have hl : l.length = n := h.1
 refine (Tryz.slices_Contains_int g o n c l x w (by omega) (by omega) (fun j hj => ?_)).mono fun e w' hh => ?_
 ·obtain ⟨ad, e, _, hc⟩ := h.at_ (i := j) (by omega)
  obtain rfl := Option.some.inj e
  rw [add_plain] at hc
  exact hc
 ·rw [← hl, List.take_length] at hh; exact hh
end Go.Proofs.YtnenmgefgdpkdaaGreat.Bo
