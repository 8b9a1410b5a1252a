/-
 Pj2
-/
import Derived.Test.YtdaimeaofgbfpaaGreatZa2
import Derived.Test.YtdaimeaofgbfpaaGreatPb2
import Derived.Test.YtdaimeaofgbfpaaGreatPa2
import Derived.Test.YtdaimeaofgbfpaaGreatShelf
import Derived.Sort.OwnSortedInts
import Derived.Lib.OwnBridge
import Derived.RangeFuncBox
set_option linter.unusedSimpArgs false
set_option linter.unusedVariables false
namespace Go.Proofs.YtdaimeaofgbfpaaGreat.By
open Go.RowKit
open Mem Gm Rf
def tidyRow (l : List Int) : List Int := Lib.compact (l.mergeSort fun x y => decide (x ≤ y))
theorem sort_own (w : World) (base : Nat) (rv : Value) (l : List Int) (h : w.ownsRow base 3 1 rv l.length (ints l)) (hlen : l.length ≤ 1000000) :
  Calls Tryz.prog 111 #[rv] w fun e w' => e = .returned (.tuple #[]) ∧ w'.ownsRow base 3 1 rv (l.mergeSort fun x y => decide (x ≤ y)).length (ints (l.mergeSort fun x y => decide (x ≤ y))) ∧ w.grownBy w' rv.ownBlock := by
 have h0 := h
 rcases h.2 with ⟨rfl, hn⟩ | ⟨g, cap, cur, rfl, hb, hg, hc, hm, hs, ht⟩
 ·refine (Tryz.slices_Sort_int_none none 0 w).mono ?_
  rintro e w' ⟨rfl, rfl⟩
  have : l = [] := List.eq_nil_of_length_eq_zero hn
  subst this
  exact ⟨rfl, by simpa using h0, ⟨rfl, rfl, rfl, Nat.le_refl _, fun _ _ _ => rfl⟩⟩
 ·rw [Nat.mul_one] at ht hs
  have hH := holds_of_blockI (ss := l) hg ht
  unfold maxLen at hm
  refine (Tryz.slices_Sort_int g 0 cap l w hH (Array.getElem?_eq_some_iff.1 hg).1 (by omega)).mono ?_
  rintro e w' ⟨rfl, n, os, rfl⟩
  refine ⟨rfl, ?_, grownBy_sortedI _⟩
  rw [List.length_mergeSort]
  exact ownsRow_sortedI (List.length_mergeSort l) hb hg hc (by unfold maxLen; exact hm) (by omega)
theorem compact_le (l : List Int) : (Lib.compact l).length ≤ l.length := by
 unfold Lib.compact Lib.compactUpTo
 rw [List.length_map]
 refine Nat.le_trans (List.length_filter_le _ _) ?_
 simp
theorem compact_own (w : World) (base : Nat) (rv : Value) (l : List Int) (h : w.ownsRow base 3 1 rv l.length (ints l)) :
  Calls Tryz.prog 132 #[rv] w fun e w' => ∃ A c, e = .returned (.slice A (Lib.compact l).length c) ∧ w'.ownsRow base 3 1 (.slice A (Lib.compact l).length c) (Lib.compact l).length (ints (Lib.compact l)) ∧ w.grownBy w' rv.ownBlock ∧ (Value.slice A (Lib.compact l).length c).ownBlock = rv.ownBlock := by
 have h0 := h
 rcases h.2 with ⟨rfl, hn⟩ | ⟨g, cap, cur, rfl, hb, hg, hc, hm, hs, ht⟩
 ·refine (Tryz.slices_Compact_int_empty none 0 w).mono ?_
  rintro e w' ⟨rfl, rfl⟩
  have : l = [] := List.eq_nil_of_length_eq_zero hn
  subst this
  have hcz : Lib.compact ([] : List Int) = [] := rfl
  rw [hcz]
  exact ⟨none, 0, rfl, by simpa using h0, ⟨rfl, rfl, rfl, Nat.le_refl _, fun _ _ _ => rfl⟩, rfl⟩
 ·rw [Nat.mul_one] at ht
  have hH := holds_of_blockI (ss := l) hg ht
  have hm' := hm
  unfold maxLen at hm'
  refine (Tryz.slices_Compact_int g 0 cap l w hH (by omega) hc).mono ?_
  rintro e w' ⟨rfl, q, rfl⟩
  have hle := compact_le l
  refine ⟨some ⟨g, 0, none⟩, cap, rfl, ?_, ?_, rfl⟩
  ·have := Lib.ownsRow_putRow (enc := Value.int .i64) (q := q) (k := (Lib.compact l).length) (ys := Lib.compact l ++ List.replicate (l.length - (Lib.compact l).length) 0) (zs := l) (w := w) h0 (by simp; omega) hle
   rw [List.take_left] at this
   exact this
  ·refine ⟨rfl, rfl, rfl, by simp [Sort.ahead], fun k hk hne => ?_⟩
   have : g ≠ k := fun e => hne (by rw [e]; rfl)
   simp [Sort.putRow, Sort.mapBlock, Sort.ahead, Array.getElem?_modify, this]
theorem only_two {a b c : World} {r : Option Nat} (h : a.grownBy b r) (k : b.grownBy c r) : a.grownBy c r :=
 ⟨k.os.trans h.os, k.tape.trans h.tape, k.output.trans h.output, Nat.le_trans h.size k.size, fun i hi hne => (k.block i (Nat.lt_of_lt_of_le hi h.size) hne).trans (h.block i hi hne)⟩
def tidyTo (k : Nat) (L : List (List Int)) : List (List Int) := (L.take k).map tidyRow ++ L.drop k
theorem tidyTo_length (k : Nat) (L : List (List Int)) : (tidyTo k L).length = L.length := by
 simp [tidyTo]; omega
theorem tidyTo_all (L : List (List Int)) : tidyTo L.length L = L.map tidyRow := by simp [tidyTo]
theorem tidyTo_row {k : Nat} {L : List (List Int)} (hk : k < L.length) : rowOf (tidyTo k L) k = rowOf L k := by
 unfold rowOf tidyTo
 rw [List.getD_eq_getElem?_getD, List.getElem?_append_right (by simp only [List.length_map, List.length_take]; omega), List.getD_eq_getElem?_getD]
 have : ((L.take k).map tidyRow).length = k := by simp; omega
 rw [this, Nat.sub_self, List.getElem?_drop, Nat.add_zero]
theorem tidyTo_next {k : Nat} {L : List (List Int)} (hk : k < L.length) : (tidyTo k L).set k (tidyRow (rowOf L k)) = tidyTo (k + 1) L := by
 have hr : rowOf L k = L[k] := by unfold rowOf; rw [List.getD_eq_getElem?_getD, List.getElem?_eq_getElem hk]; rfl
 unfold tidyTo
 have hlen : ((L.take k).map tidyRow).length = k := by simp; omega
 rw [List.set_append_right _ _ (by omega), hlen, Nat.sub_self, List.drop_eq_getElem_cons hk, List.set_cons_zero, List.take_succ_eq_append_getElem hk, List.map_append, hr]
 simp
set_option maxHeartbeats 2000000 in
theorem tidy_any (W : World) (rb base : Nat) (L : List (List Int)) (hown : OwnG W rb base 44 3 L) (hrb : rb < base) (hL : L.length ≤ 1000) (hR : ∀ i, (rowOf L i).length ≤ 1000000) :
  Calls Tryz.prog 99 #[.slice (some ⟨rb, 0, none⟩) L.length L.length] W fun e w' => e = .returned (.slice (some ⟨rb, 0, none⟩) L.length L.length) ∧ OwnG w' rb base 44 3 (L.map tidyRow) ∧ Keeps (fun k => k ≠ rb ∧ k < base) W w' := by
 obtain ⟨N, hN⟩ : ∃ N, L.length = N := ⟨_, rfl⟩
 have hall := tidyTo_all L
 rw [hN] at hL hall ⊢
 have HN := Hd hN
 have HA := Hd hall
 have h0 : OwnG W rb base 44 3 (tidyTo 0 L) := by simpa [tidyTo] using hown
 clear hN hall hown
 go_enter Tryz.func99, Tryz.ntmps99
 go_wp2
 go_loopw [7] (fun i wr => ∃ k : Nat, k ≤ N ∧ i = .int .i64 k ∧ OwnG wr rb base 44 3 (tidyTo k L) ∧ Keeps (fun k => k ≠ rb ∧ k < base) W wr) (fun i _ => N - (intOf i).toNat)
 case atStart => exact ⟨0, Nat.zero_le _, rfl, h0, Keeps.refl _ _⟩
 case round =>
  obtain ⟨k, hk, rfl, hO, hK⟩ := hrel
  by_cases hlt : k < N
  ·have hkL : k < L.length := by rw [HN.out]; exact hlt
   obtain ⟨rv, hcell, hfr, hone, hrow, ⟨RA, RC, hrv⟩, hput⟩ := hO.at_ hrb (a := k) (by rw [tidyTo_length]; exact hkL)
   have hlt' := hO.lt
   rw [tidyTo_row hkL] at hrow hrv
   have HP := Hd hput
   have hnext := Hd (tidyTo_next hkL)
   have hS := Hd (sort_own wr base rv (rowOf L k) hrow (hR k))
   have HOB := Hd (show ∀ r, rv.ownBlock = some r → base ≤ r from fun r e => (hrow.lt r e).1)
   have HNE : Hid (some rb ≠ rv.ownBlock) := fun e => by have := HOB.out rb e.symm; omega
   have HFR : Hid (wr.frozen? ⟨rb, k, none⟩ = false) := hfr
   subst hrv
   clear hput hO hone hrow hkL hfr
   go_wp2_with (first
    | (go_at_call 111; refine hS.out.mono ?_; rintro e w1 ⟨rfl, hown1, hg1⟩; have HO1 := Hd hown1; have HG1 := Hd hg1; clear hown1 hg1)
    | (go_at_call 132; refine (compact_own _ base _ _ HO1.out).mono ?_; rintro e w2 ⟨CA, CC, rfl, hown2, hg2, hob2⟩; have HO2 := Hd hown2; have HG2 := Hd hg2; have HB2 := Hd hob2; have c2 := hg2.cell (HG1.out.cell hcell HNE.out) HNE.out; have f2 : w2.frozen? ⟨rb, k, none⟩ = false := ((World.frozen?_of_block ((hg2.block rb (Nat.lt_of_lt_of_le hlt' HG1.out.size) HNE.out).trans (HG1.out.block rb hlt' HNE.out))).trans HFR.out); clear hown2 hg2 hob2))
   have hg := only_two HG1.out HG2.out
   have hfin := HP.out _ (tidyRow (rowOf L k)) w2 rfl HO2.out (.inr (.inl HB2.out)) (fun q _ hq hne => hg.block q hq (fun e => hne e.symm))
   rw [hnext.out] at hfin
   have hKf : Keeps (fun k => k ≠ rb ∧ k < base) W (w2.setCell ⟨rb, k, none⟩ (.slice CA (tidyRow (rowOf L k)).length CC)) :=
    (hK.grown hg fun r e h => by have := HOB.out r e; omega).setCell (by simp) _
   go_roundw
   case rel => exact ⟨k + 1, by omega, by go_num, hfin, hKf⟩
   case measure => simp [intOf]; omega
  ·obtain rfl : k = N := by omega
   rw [HA.out] at hO
   go_wp2
   go_ret
   exact ⟨rfl, hO, hK⟩
end Go.Proofs.YtdaimeaofgbfpaaGreat.By
namespace Go.Proofs.YtdaimeaofgbfpaaGreat.By
open Go.RowKit
open Mem Gm Rf
attribute [local go_sem] Oper.semAt_some
theorem madeCells_one (z : Value) (n : Nat) : madeCells #[z] n = Array.replicate n z := by
 apply Array.ext
 ·simp [madeCells]
 ·intro i h1 h2
  simp [madeCells, Nat.mod_one]
theorem make_rows (n : Nat) (hn : n ≤ 1000) (W : World) : (Instr.makeSlice 41 (.int .i64 (n : Int)) (.int .i64 (n : Int))).run Tryz.prog W = .ok (.slice (some ⟨W.heap.size, 0, none⟩) n n) (W.alloc (.cells (Array.replicate n (.slice none 0 0)) 44)) := by
 obtain ⟨i, hi, hz0, hz1, hz2⟩ := info_parts infoR
 have := run_make (P := Tryz.prog) W 41 44 i (.slice none 0 0) Tryz.underlying41 hi hz0 .i64 .i64 (n : Int) (n : Int) (by omega) (by omega) (by rw [hz2]; omega) (by omega)
 rw [this, hz1]
 simp only [Int.toNat_natCast, Nat.mul_one]
 rw [show (Value.slice none 0 0).cells = #[.slice none 0 0] from rfl, madeCells_one]
theorem rising_eq : ∀ {a b : List Int}, a.Pairwise (· < ·) → b.Pairwise (· < ·) → (∀ x, x ∈ a ↔ x ∈ b) → a = b
 | [], [], _, _, _ => rfl
 | [], y :: b, _, _, h => absurd ((h y).2 List.mem_cons_self) (by simp)
 | x :: a, [], _, _, h => absurd ((h x).1 List.mem_cons_self) (by simp)
 | x :: a, y :: b, ha, hb, h => by
  rw [List.pairwise_cons] at ha hb
  have e : x = y := by
   rcases List.mem_cons.1 ((h x).1 List.mem_cons_self) with e | hx
   ·exact e
   ·rcases List.mem_cons.1 ((h y).2 List.mem_cons_self) with e | hy
    ·exact e.symm
    ·have h1 := ha.1 y hy
     have h2 := hb.1 x hx
     omega
  subst e
  have ht : ∀ z, z ∈ a ↔ z ∈ b := fun z => by
   constructor
   ·intro hz
    rcases List.mem_cons.1 ((h z).1 (List.mem_cons_of_mem _ hz)) with e | h2
    ·have := ha.1 z hz; omega
    ·exact h2
   ·intro hz
    rcases List.mem_cons.1 ((h z).2 (List.mem_cons_of_mem _ hz)) with e | h2
    ·have := hb.1 z hz; omega
    ·exact h2
  rw [rising_eq ha.2 hb.2 ht]
theorem getI (zs : List Int) (j : Nat) (h : j < zs.length) : zs.toArray[j]! = zs[j] := by
 rw [getElem!_pos zs.toArray j (by simpa using h)]; simp
theorem compact_rises (zs : List Int) (h : zs.Pairwise (· ≤ ·)) : (Lib.compact zs).Pairwise (· < ·) := by
 unfold Lib.compact Lib.compactUpTo
 rw [List.pairwise_map]
 have h1 : ((List.range zs.length).filter (Lib.keeps zs.toArray)).Pairwise (· < ·) := List.Pairwise.filter _ List.pairwise_lt_range
 refine List.Pairwise.imp_of_mem ?_ h1
 intro i j hi hj hij
 obtain ⟨hir, _⟩ := List.mem_filter.1 hi
 obtain ⟨hjr, hk⟩ := List.mem_filter.1 hj
 rw [List.mem_range] at hir hjr
 have hk2 : zs.toArray[j]! ≠ zs.toArray[j - 1]! := by
  simp only [Lib.keeps, decide_eq_true_eq] at hk
  rcases hk with e | e
  ·omega
  ·exact e
 rw [getI zs j hjr, getI zs (j - 1) (by omega)] at hk2
 rw [getI zs i hir, getI zs j hjr]
 have hle : ∀ (p q : Nat) (hp : p < zs.length) (hq : q < zs.length), p ≤ q → zs[p] ≤ zs[q] := fun p q hp hq hpq => by
  by_cases e : p = q
  ·subst e; exact Int.le_refl _
  ·exact List.pairwise_iff_getElem.1 h p q hp hq (by omega)
 have h3 := hle i (j - 1) hir (by omega) (by omega)
 have h4 := hle (j - 1) j (by omega) hjr (by omega)
 omega
theorem mem_compact (zs : List Int) (x : Int) : x ∈ Lib.compact zs ↔ x ∈ zs := by
 unfold Lib.compact Lib.compactUpTo
 constructor
 ·intro h
  obtain ⟨j, hj, rfl⟩ := List.mem_map.1 h
  have hjr := List.mem_range.1 (List.mem_filter.1 hj).1
  rw [getI zs j hjr]
  exact List.getElem_mem hjr
 ·intro h
  obtain ⟨j, hj, rfl⟩ := List.getElem_of_mem h
  have key : ∀ j, j < zs.length → zs.toArray[j]! ∈ ((List.range zs.length).filter (Lib.keeps zs.toArray)).map (zs.toArray[·]!) := by
   intro j
   induction j with
   | zero => intro hj; exact List.mem_map.2 ⟨0, List.mem_filter.2 ⟨List.mem_range.2 (by simpa using hj), by simp [Lib.keeps]⟩, rfl⟩
   | succ j ih =>
    intro hj
    by_cases e : zs.toArray[j + 1]! = zs.toArray[j]!
    ·rw [e]; exact ih (by omega)
    ·exact List.mem_map.2 ⟨j + 1, List.mem_filter.2 ⟨List.mem_range.2 (by simpa using hj), by simp only [Lib.keeps, decide_eq_true_eq]; exact .inr e⟩, rfl⟩
  have := key j hj
  rwa [getI zs j hj] at this
theorem tidyRow_rises (l : List Int) : (tidyRow l).Pairwise (· < ·) := by
 refine compact_rises _ ?_
 have h := List.pairwise_mergeSort (le := fun (x y : Int) => decide (x ≤ y)) (fun a b c h1 h2 => by simp only [decide_eq_true_eq] at *; omega) (fun a b => by simp only [Bool.or_eq_true, decide_eq_true_eq]; omega) l
 exact h.imp (fun h => by simpa using h)
theorem mem_tidyRow (l : List Int) (x : Int) : x ∈ tidyRow l ↔ x ∈ l := by
 unfold tidyRow
 rw [mem_compact, List.mem_mergeSort]
end Go.Proofs.YtdaimeaofgbfpaaGreat.By
