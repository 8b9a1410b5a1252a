/-
  WALK: wayTo: back from where a way ends.
-/
import Derived.Test.YtfgnlemoodfgoaaGi
import Derived.Test.YtfgnlemoodfgoaaGd
import Derived.Deep.LoopGhost
namespace Go.Proofs.Ytfgnlemoodfgoaa.By
open Go.RowKit
open Mem Gm Rf

theorem nats_length (l : List Nat) : (nats l).length = l.length := by simp [nats]
theorem nats_snoc (l : List Nat) (x : Nat) : nats (l ++ [x]) = nats l ++ [.int .i64 (x : Int)] := by simp [nats]

theorem reverse_own (w : World) (base : Nat) (v : Value) (l : List Nat) (hl : l ≠ []) (h : w.ownsRow base 3 1 v l.length (nats l)) (hm : l.length ≤ 1000000) :
    Calls Try.prog 30 #[v] w fun e w' => e = .returned (.tuple #[]) ∧ w'.ownsRow base 3 1 v l.length (nats l.reverse) ∧ w.grownBy w' v.ownBlock := by
  have h0 := h
  rw [nats_ints] at h0
  rcases h.2 with ⟨rfl, hn⟩ | ⟨g, cap, cur, rfl, hb, hg, hc, hm2, hs, ht⟩
  · exact absurd (List.eq_nil_of_length_eq_zero hn) hl
  · have ht' : cur.toList.take (l.map fun (n : Nat) => (n : Int)).length = (l.map fun (n : Nat) => (n : Int)).map (Value.int .i64) := by
      rw [Nat.mul_one] at ht
      rw [List.length_map, ht, nats_ints]; rfl
    have hH := holds_of_blockI (ss := l.map fun (n : Nat) => (n : Int)) hg ht'
    have := Try.slices_Reverse_int g 0 cap (l.map fun (n : Nat) => (n : Int)) w hH (by simp; omega)
    rw [List.length_map] at this
    refine this.mono ?_
    rintro e w' ⟨rfl, q, rfl⟩
    refine ⟨rfl, ?_, ?_⟩
    · have h1 := Lib.ownsRow_putRow (enc := Value.int .i64) (q := q) (k := l.length) (ys := (l.map fun (n : Nat) => (n : Int)).reverse) (zs := l.map fun (n : Nat) => (n : Int)) (w := w) h0 (by simp) (Nat.le_refl _)
      rw [List.take_of_length_le (by simp)] at h1
      have e1 : nats l.reverse = ((l.map fun (n : Nat) => (n : Int)).reverse).map (Value.int .i64) := by simp [nats, List.map_reverse, Function.comp_def]
      rw [e1]; exact h1
    · refine ⟨rfl, rfl, rfl, by simp [Sort.ahead], fun k hk hne => ?_⟩
      have : g ≠ k := fun e => hne (by rw [e]; rfl)
      simp [Sort.putRow, Sort.mapBlock, Sort.ahead, Array.getElem?_modify, this]

set_option maxHeartbeats 2000000 in
theorem wayTo_any (w : World) (ab N : Nat) (l : List Nat) (hl : l ≠ []) (hlen : l.length ≤ 1000000) (hab : ab < w.heap.size) (hc : ∀ i x, l[i]? = some x → x < N ∧ w.cell? ⟨ab, x, none⟩ = some (.int .i64 (ahd (l.drop (i + 1))))) :
    Calls Try.prog 22 #[.int .i64 (ahd l), .slice (some ⟨ab, 0, none⟩) N N] w fun e w' => ∃ v, e = .returned v ∧ w'.ownsRow w.heap.size 3 1 v l.length (nats l.reverse) ∧ Below w.heap.size w w' := by
  obtain ⟨i0, hi, hz0, hz1, hz2⟩ := info_parts infoI
  have HC := Lib.hid hc
  have HL := Lib.hid hl
  clear hc hl
  go_enter Try.func22, Try.ntmps22
  go_wp2
  go_loopg [5, 6] l.length (fun f v p wr => ∃ k : Nat, k ≤ l.length ∧ f = l.length - k ∧ p = .int .i64 (ahd (l.drop k)) ∧ wr.ownsRow w.heap.size 3 1 v (l.take k).length (nats (l.take k)) ∧ Below w.heap.size w wr)
  case atStart => exact ⟨0, Nat.zero_le _, rfl, rfl, World.ownsRow_nil _ _ _ _, Below.refl _ _⟩
  case round =>
    obtain ⟨k, hk, rfl, rfl, hown, hB⟩ := hrel
    by_cases hlt : k < l.length
    · obtain ⟨x, hx⟩ : ∃ x, l[k]? = some x := ⟨_, List.getElem?_eq_getElem hlt⟩
      have hdrop : ahd (l.drop k) = (x : Int) := by
        rw [List.drop_eq_getElem_cons hlt]
        rw [List.getElem?_eq_getElem hlt] at hx
        injection hx with hx
        rw [hx]; rfl
      have htake : nats (l.take k) ++ [.int .i64 (x : Int)] = nats (l.take (k + 1)) := by
        rw [List.getElem?_eq_getElem hlt] at hx
        injection hx with hx
        rw [List.take_succ_eq_append_getElem hlt, hx, nats_snoc]
      obtain ⟨hxN, hcell0⟩ := HC.out k x hx
      rw [hdrop]
      obtain ⟨y, hy⟩ : ∃ y, ahd (l.drop (k + 1)) = y := ⟨_, rfl⟩
      rw [hy] at hcell0
      have hne : ((x : Int) != -1) = true := by simp
      have hxI : (x : Int) < (N : Int) := by omega
      have htl : (l.take k).length = k := by rw [List.length_take]; omega
      have htl2 : (l.take (k + 1)).length = k + 1 := by rw [List.length_take]; omega
      rw [htl] at hown
      have hnew : ∀ j u, [Value.int .i64 (x : Int)][j]? = some u → (wr.alloc (.cells #[.int .i64 (x : Int)] 3)).cell? ((⟨wr.heap.size, 0, none⟩ : Addr).add j) = some u := fun j u hu => by
        rw [add_plain, Nat.zero_add, (Blk.new wr _ _).cell]; simpa using hu
      have HO := Lib.hid (own_keep (w' := wr.alloc (.cells #[.int .i64 (x : Int)] 3)) hown fun g _ hg _ => Below.heap_alloc _ _ _ hg)
      have HW := Lib.hid hnew
      have HT := Lib.hid htake
      have HY := Lib.hid hy
      have HTL := Lib.hid htl2
      have HBB := Lib.hid hB
      have hszr := hB.size
      have hcellA : (wr.alloc (.cells #[.int .i64 (x : Int)] 3)).cell? ⟨ab, x, none⟩ = some (.int .i64 y) := by
        rw [World.cell?_alloc_lt _ _ _ (by show ab < wr.heap.size; omega)]; exact (hB.cell (p := ⟨ab, x, none⟩) hab).trans hcell0
      have HCA := Lib.hid hcellA
      have HB1 := Lib.hid (show k + 1 ≤ maxLen by unfold maxLen; omega)
      have HB2 := Lib.hid (show (k + 1) * 8 ≤ 140737488355328 by omega)
      have HB3 := Lib.hid (show w.heap.size ≤ (wr.alloc (.cells #[.int .i64 (x : Int)] 3)).heap.size by simp; omega)
      clear hdrop htake hx hcell0 hy hown hnew htl htl2 hcellA hB
      go_wp2_with (at_builtin; refine wpList_append_own _ rfl _ _ 23 rfl w.heap.size 3 i0 (.int .i64 0) 1 8 Try.underlying23 hi hz0 hz1 hz2 rfl (by decide) _ _ _ rfl HO.out ⟨wr.heap.size, 0, none⟩ 1 1 [.int .i64 (x : Int)] rfl rfl HW.out (by simp [Value.oneCell']) HB1.out HB2.out HB3.out ?_; intro v' w' h2 h3 h4; clear h4; have H2 := Lib.hid h2; have H3 := Lib.hid h3; have hc3 : w'.cell? ⟨ab, x, none⟩ = some (.int .i64 y) := h3.cell HCA.out (fun e => by have := (HO.out.lt _ e.symm).1; simp at this; omega); clear h2 h3)
      have hO2 := H2.out
      rw [HT.out] at hO2
      have hB2 : Below w.heap.size w w' := (HBB.out.alloc hszr _).grown H3.out HB3.out fun r e => (HO.out.lt r e).1
      go_roundg (l.length - (k + 1))
      case measure => omega
      case rel => exact ⟨k + 1, by omega, rfl, by rw [HY.out], by rw [HTL.out]; exact hO2, hB2⟩
    · obtain rfl : k = l.length := by omega
      rw [List.take_length] at hown
      have hd : ahd (l.drop l.length) = -1 := by rw [List.drop_length]; rfl
      rw [hd]
      have HS := Lib.hid (reverse_own wr w.heap.size u5 l HL.out hown hlen)
      have HOB := Lib.hid (show ∀ r, u5.ownBlock = some r → w.heap.size ≤ r from fun r e => (hown.lt r e).1)
      have HBB := Lib.hid hB
      clear hd hown hB
      go_wp2_with (go_at_call 30; refine HS.out.mono ?_; rintro e w1 ⟨rfl, hown1, hg1⟩; have HO1 := Lib.hid hown1; have HG1 := Lib.hid hg1; clear hown1 hg1)
      go_ret
      exact ⟨_, rfl, HO1.out, HBB.out.grown HG1.out HBB.out.size HOB.out⟩
end Go.Proofs.Ytfgnlemoodfgoaa.By
