/-
  WALK: tidy: each row sorted, each number once.
-/
import Derived.Test.YtbknmapkdjmcjaaGreatDoorGc
import Derived.Test.YtbknmapkdjmcjaaGreatDoorShelf
import Derived.Sort.OwnSortedInts
import Derived.Lib.OwnBridge
namespace Go.Proofs.YtbknmapkdjmcjaaGreatDoor.By
open Go.RowKit
open Mem Gm Rf

def tidyRow (l : List Int) : List Int := Lib.compact (l.mergeSort fun x y => decide (x ≤ y))

theorem sort_own (w : World) (base : Nat) (rv : Value) (l : List Int) (h : w.ownsRow base 3 1 rv l.length (ints l)) (hlen : l.length ≤ 1000000) :
    Calls Tryz.prog 312 #[rv] w fun e w' => e = .returned (.tuple #[]) ∧ w'.ownsRow base 3 1 rv (l.mergeSort fun x y => decide (x ≤ y)).length (ints (l.mergeSort fun x y => decide (x ≤ y))) ∧ w.grownBy w' rv.ownBlock := by
  have h0 := h
  rcases h.2 with ⟨rfl, hn⟩ | ⟨g, cap, cur, rfl, hb, hg, hc, hm, hs, ht⟩
  · refine (Tryz.slices_Sort_int_none none 0 w).mono ?_
    rintro e w' ⟨rfl, rfl⟩
    have : l = [] := List.eq_nil_of_length_eq_zero hn
    subst this
    exact ⟨rfl, by simpa using h0, ⟨rfl, rfl, rfl, Nat.le_refl _, fun _ _ _ => rfl⟩⟩
  · rw [Nat.mul_one] at ht hs
    have hH := holds_of_blockI (ss := l) hg ht
    unfold maxLen at hm
    refine (Tryz.slices_Sort_int g 0 cap l w hH (Array.getElem?_eq_some_iff.1 hg).1 (by omega)).mono ?_
    rintro e w' ⟨rfl, n, os, rfl⟩
    refine ⟨rfl, ?_, grownBy_sortedI _⟩
    rw [List.length_mergeSort]
    exact ownsRow_sortedI (List.length_mergeSort l) hb hg hc (by unfold maxLen; exact hm) (by omega)

theorem compact_le (l : List Int) : (Lib.compact l).length ≤ l.length := by
  unfold Lib.compact Lib.compactUpTo
  rw [List.length_map]
  refine Nat.le_trans (List.length_filter_le _ _) ?_
  simp

theorem compact_own (w : World) (base : Nat) (rv : Value) (l : List Int) (h : w.ownsRow base 3 1 rv l.length (ints l)) :
    Calls Tryz.prog 313 #[rv] w fun e w' => ∃ A c, e = .returned (.slice A (Lib.compact l).length c) ∧ w'.ownsRow base 3 1 (.slice A (Lib.compact l).length c) (Lib.compact l).length (ints (Lib.compact l)) ∧ w.grownBy w' rv.ownBlock ∧ (Value.slice A (Lib.compact l).length c).ownBlock = rv.ownBlock := by
  have h0 := h
  rcases h.2 with ⟨rfl, hn⟩ | ⟨g, cap, cur, rfl, hb, hg, hc, hm, hs, ht⟩
  · refine (Tryz.slices_Compact_int_empty none 0 w).mono ?_
    rintro e w' ⟨rfl, rfl⟩
    have : l = [] := List.eq_nil_of_length_eq_zero hn
    subst this
    have hcz : Lib.compact ([] : List Int) = [] := rfl
    rw [hcz]
    exact ⟨none, 0, rfl, by simpa using h0, ⟨rfl, rfl, rfl, Nat.le_refl _, fun _ _ _ => rfl⟩, rfl⟩
  · rw [Nat.mul_one] at ht
    have hH := holds_of_blockI (ss := l) hg ht
    have hm' := hm
    unfold maxLen at hm'
    refine (Tryz.slices_Compact_int g 0 cap l w hH (by omega) hc).mono ?_
    rintro e w' ⟨rfl, q, rfl⟩
    have hle := compact_le l
    refine ⟨some ⟨g, 0, none⟩, cap, rfl, ?_, ?_, rfl⟩
    · have := Lib.ownsRow_putRow (enc := Value.int .i64) (q := q) (k := (Lib.compact l).length) (ys := Lib.compact l ++ List.replicate (l.length - (Lib.compact l).length) 0) (zs := l) (w := w) h0 (by simp; omega) hle
      rw [List.take_left] at this
      exact this
    · refine ⟨rfl, rfl, rfl, by simp [Sort.ahead], fun k hk hne => ?_⟩
      have : g ≠ k := fun e => hne (by rw [e]; rfl)
      simp [Sort.putRow, Sort.mapBlock, Sort.ahead, Array.getElem?_modify, this]

theorem only_two {a b c : World} {r : Option Nat} (h : a.grownBy b r) (k : b.grownBy c r) : a.grownBy c r :=
  ⟨k.os.trans h.os, k.tape.trans h.tape, k.output.trans h.output, Nat.le_trans h.size k.size, fun i hi hne => (k.block i (Nat.lt_of_lt_of_le hi h.size) hne).trans (h.block i hi hne)⟩

def tidyTo (k : Nat) (L : List (List Int)) : List (List Int) := (L.take k).map tidyRow ++ L.drop k
theorem tidyTo_length (k : Nat) (L : List (List Int)) : (tidyTo k L).length = L.length := by
  simp [tidyTo]; omega
theorem tidyTo_all (L : List (List Int)) : tidyTo L.length L = L.map tidyRow := by simp [tidyTo]
theorem tidyTo_row {k : Nat} {L : List (List Int)} (hk : k < L.length) : rowOf (tidyTo k L) k = rowOf L k := by
  unfold rowOf tidyTo
  rw [List.getD_eq_getElem?_getD, List.getElem?_append_right (by simp only [List.length_map, List.length_take]; omega), List.getD_eq_getElem?_getD]
  have : ((L.take k).map tidyRow).length = k := by simp; omega
  rw [this, Nat.sub_self, List.getElem?_drop, Nat.add_zero]
theorem tidyTo_next {k : Nat} {L : List (List Int)} (hk : k < L.length) : (tidyTo k L).set k (tidyRow (rowOf L k)) = tidyTo (k + 1) L := by
  have hr : rowOf L k = L[k] := by unfold rowOf; rw [List.getD_eq_getElem?_getD, List.getElem?_eq_getElem hk]; rfl
  unfold tidyTo
  have hlen : ((L.take k).map tidyRow).length = k := by simp; omega
  rw [List.set_append_right _ _ (by omega), hlen, Nat.sub_self, List.drop_eq_getElem_cons hk, List.set_cons_zero, List.take_succ_eq_append_getElem hk, List.map_append, hr]
  simp

end Go.Proofs.YtbknmapkdjmcjaaGreatDoor.By
