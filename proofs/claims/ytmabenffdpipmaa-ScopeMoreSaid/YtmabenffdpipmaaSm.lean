/-
  WALKS of layer 23: Find, Bound.
-/
import Derived.Test.YtmabenffdpipmaaSl
namespace Go.Proofs.Ytmabenffdpipmaa.By
open Go.RowKit Go.Maps
open Mem Rf
set_option linter.unusedSimpArgs false
set_option linter.unusedVariables false

/-- Names that a machine can hold, and not too many. -/
structure NmP (os : List Ob) : Prop where
  names : ∀ x ∈ allS (lists os), x.2.1.size ≤ maxLen
  many : (allS (lists os)).length ≤ 100000

set_option maxRecDepth 100000 in
set_option maxHeartbeats 4000000 in
theorem find_any (A : Option Addr) (n c B : Nat) (os : List Ob) (w : World) (hO : ObL w B A n c os) (hB : B ≤ w.heap.size) (hN : NmP os) (nm : ByteArray) (hnm : nm.size ≤ maxLen) :
    Calls Try.prog 8 #[.slice A n c, .string nm] w fun e w' => e = .returned (findE (findV (lists os) nm)) ∧ Below w.heap.size w w' := by
  have HC := Lib.hid (firsts_any A n c B os w hO hB hN.names hN.many)
  obtain ⟨f, hf⟩ : ∃ f, findV (lists os) = f := ⟨_, rfl⟩
  rw [hf] at HC ⊢
  clear hf hO hB hN
  obtain ⟨ga, hga⟩ : ∃ ga : Nat, (gP (f nm)).1 = ga := ⟨_, rfl⟩
  obtain ⟨gb, hgb⟩ : ∃ gb : Nat, (gP (f nm)).2 = gb := ⟨_, rfl⟩
  obtain ⟨gs, hgs⟩ : ∃ gs, (f nm).isSome = gs := ⟨_, rfl⟩
  have hR : findE (f nm) = .tuple #[.int .i64 (ga : Int), .int .i64 (gb : Int), .bool gs] := by unfold findE; rw [← hga, ← hgb, hgs]; rfl
  rw [hR]
  have HGA := Lib.hid hga
  have HGB := Lib.hid hgb
  have HGS := Lib.hid hgs
  clear hga hgb hgs hR
  go_enter Try.func8, Try.ntmps8
  go_wp2_with (go_at_call 17; refine HC.out.mono ?_; rintro e w2 ⟨m, mk, rfl, hm, hmp, hb2⟩; have hlk := hmp.look hnm; unfold plV at hlk; rw [HGA.out, HGB.out, HGS.out] at hlk; have HB2 := Lib.hid hb2; clear hm hmp hb2)
  go_quiet (fail)
  go_wp2
  refine bodyPost_ret (v := .tuple #[.int .i64 (ga : Int), .int .i64 (gb : Int), .bool gs]) (by simp [results, Try.results8, go_sem]) rfl ⟨rfl, ?_⟩
  exact below_drewN (HB2.out.alloc HB2.out.size _) _

set_option maxRecDepth 100000 in
set_option maxHeartbeats 4000000 in
theorem bound_any (A : Option Addr) (n c B : Nat) (os : List Ob) (w : World) (hO : ObL w B A n c os) (hB : B ≤ w.heap.size) (hN : NmP os) (f s : Int) :
    Calls Try.prog 10 #[.slice A n c, .int .i64 f, .int .i64 s] w fun e w' => e = .returned (boundE (boundV (lists os) f s)) ∧ Below w.heap.size w w' := by
  have hL : (lists os).length = n := by rw [lists_length, hO.1.1]
  have hbad : ¬ (0 ≤ f ∧ f < ((lists os).length : Int) ∧ 0 ≤ s ∧ s < ((rowS (lists os) f.toNat).length : Int)) → boundV (lists os) f s = ((0, 0), 2) := fun h => by unfold boundV; rw [if_neg h]
  have hn := hO.1.few
  have hrow : ∀ j, j < n → rowS (lists os) j = (obAt os j).l := fun j hj => rowS_lists (by rw [hO.1.1]; exact hj)
  have HP := Lib.hid (fun p n w => isPlace_any p n w)
  by_cases hfp : 0 ≤ f ∧ f < (n : Int)
  · obtain ⟨i, rfl⟩ : ∃ i : Nat, f = (i : Int) := ⟨f.toNat, by omega⟩
    have hi : i < n := by omega
    have hP1 : (decide (0 ≤ (i : Int)) && decide ((i : Int) < (n : Int))) = true := by simp [hi]
    obtain ⟨ad, rfl, hblk, c0, _, _⟩ := hO.at_ hi
    have hln := (hO.2 i hi).1
    obtain ⟨on, hon⟩ : ∃ on, (obAt os i).n = on := ⟨_, rfl⟩
    have hi0 : (0 : Int) ≤ (i : Int) := by omega
    have hi1 : (i : Int) < (n : Int) := by omega
    by_cases hsp : 0 ≤ s ∧ s < (on : Int)
    · obtain ⟨k, rfl⟩ : ∃ k : Nat, s = (k : Int) := ⟨s.toNat, by omega⟩
      have hk : k < on := by omega
      have hP2 : (decide (0 ≤ (k : Int)) && decide ((k : Int) < (on : Int))) = true := by simp [hk]
      have hr : boundV (lists os) (i : Int) (k : Int) = boundAt (lists os) (i, k) := by
        unfold boundV
        rw [if_pos ⟨by omega, by rw [hL]; omega, by omega, by rw [Int.toNat_natCast, hrow i hi, hln, hon]; omega⟩, Int.toNat_natCast, Int.toNat_natCast]
      rw [hr]
      have hnm : (syAt (obAt os i).l k).1.size ≤ maxLen := by
        have := hN.names _ (allS_mem (L := lists os) (i := i) (k := k) (by rw [hL]; exact hi) (by rw [hrow i hi, hln, hon]; exact hk))
        dsimp only [atS] at this
        rwa [hrow i hi] at this
      have HC := Lib.hid (firsts_any (some ad) n c B os w hO hB hN.names hN.many)
      have HD := Lib.hid (fun w2 m mk (hb : Below w.heap.size w w2) hm => bound_in (some ad) n c B os m mk w2 (hO.below (hb.mono hB)) (Nat.le_trans hB hb.size) hm i k hi (by rw [hon]; exact hk) hnm)
      rw [hon] at c0
      obtain ⟨r, hr2⟩ : ∃ r, boundAt (lists os) (i, k) = r := ⟨_, rfl⟩
      rw [hr2] at HD ⊢
      obtain ⟨⟨ra, rb⟩, re⟩ := r
      unfold bndE plV at HD
      dsimp only at HD
      clear hr hr2 hbad hO hN hnm hrow hL hln hon hfp hsp
      go_enter Try.func10, Try.ntmps10
      go_wp2_with (first | (go_at_call 19; refine (HP.out _ _ _).mono ?_; rintro e w2 ⟨rfl, rfl⟩) | (go_at_call 17; refine HC.out.mono ?_; rintro e w2 ⟨m, mk, rfl, hm, hmp, hb2⟩; have HMP := Lib.hid hmp; have HB2 := Lib.hid hb2; clear hm hmp hb2) | (go_at_call 20; refine (HD.out _ _ _ HB2.out HMP.out).mono ?_; rintro e w3 ⟨rfl, hb3⟩; have HB3 := Lib.hid (HB2.out.trans (hb3.mono HB2.out.size)); clear hb3))
      go_quiet (fail)
      go_wp2
      refine bodyPost_ret (v := boundE ((ra, rb), re)) (by simp [results, Try.results10, go_sem, boundE]) rfl ⟨rfl, ?_⟩
      exact below_drewN (HB3.out.alloc HB3.out.size _) _
    · rw [hbad fun h => hsp ⟨h.2.2.1, by have := h.2.2.2; rw [Int.toNat_natCast, hrow i hi, hln, hon] at this; exact this⟩]
      have hP2 : (decide (0 ≤ s) && decide (s < (on : Int))) = false := by
        rw [Bool.and_eq_false_iff]
        by_cases h : 0 ≤ s
        · exact .inr (by simp; omega)
        · exact .inl (by simp; omega)
      rw [hon] at c0
      clear hbad hO hN hrow hL hln hon hfp hsp
      go_enter Try.func10, Try.ntmps10
      go_wp2_with (go_at_call 19; refine (HP.out _ _ _).mono ?_; rintro e w2 ⟨rfl, rfl⟩)
      refine bodyPost_ret (v := boundE ((0, 0), 2)) (by simp [results, Try.results10, go_sem, boundE]) rfl ⟨rfl, Below.refl _ _⟩
  · rw [hbad fun h => hfp ⟨h.1, by have := h.2.1; rw [hL] at this; exact this⟩]
    have hP1 : (decide (0 ≤ f) && decide (f < (n : Int))) = false := by
      rw [Bool.and_eq_false_iff]
      by_cases h : 0 ≤ f
      · exact .inr (by simp; omega)
      · exact .inl (by simp; omega)
    clear hbad hO hN hrow hL hfp
    go_enter Try.func10, Try.ntmps10
    go_wp2_with (go_at_call 19; refine (HP.out _ _ _).mono ?_; rintro e w2 ⟨rfl, rfl⟩)
    refine bodyPost_ret (v := boundE ((0, 0), 2)) (by simp [results, Try.results10, go_sem, boundE]) rfl ⟨rfl, Below.refl _ _⟩
end Go.Proofs.Ytmabenffdpipmaa.By
