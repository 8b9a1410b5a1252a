/-
  WALKS: slices.Clone at texts; name.Sort: the names of a list, each once, rising.
-/
import Derived.Test.YtlpmndljjdljmaaDoorNh
import Derived.Laws.AppendOwn
import Derived.OwnWalk
import Derived.Sort.OwnSorted
import Derived.Lib.SlicesCompact
namespace Go.Proofs.YtlpmndljjdljmaaDoor.By
open Go.RowKit
open Mem Nam

theorem info9 : (Tryd.prog.info? 9).map (fun i => (i.zero, i.size, i.bytes)) = some (some (.string ByteArray.empty), 1, 16) := by kernel_rfl

/-- The end of a call that answers a new row of its own. -/
def OwnsS (w : World) (vs : List Value) (e : Ending) (w' : World) : Prop :=
  ∃ v', e = .returned v' ∧ w'.ownsRow w.heap.size 9 1 v' vs.length vs ∧ Below w.heap.size w w'

set_option maxHeartbeats 400000 in
theorem clone_strs (v : Value) (vs : List Value) (w : World) (B : Nat) (h : SlV w B v vs) (h1 : ∀ u ∈ vs, u.oneCell' = true) (hl : vs.length ≤ 1000000) :
    Calls Tryd.prog 23 #[v] w (OwnsS w vs) := by
  have hnil := fun (wx : World) (a : Option Addr) (l c : Nat) => Lib.run_eql_slice_nil (P := Tryd.prog) wx 22 9 a l c 0 0 Tryd.underlying22
  obtain ⟨i0, hi, hz0, hz1, hz2⟩ := info_parts info9
  cases h with
  | nil =>
    go_enter Tryd.func23, Tryd.ntmps23
    go_wp2
    go_ret
    exact ⟨_, rfl, World.ownsRow_nil _ _ _ _, Below.refl _ _⟩
  | at_ ad cap _ hc hm h =>
    have hown : (w.alloc (.cells #[] 9)).ownsRow w.heap.size 9 1 (.slice (some ⟨w.heap.size, 0, none⟩) 0 0) 0 [] := World.ownsRow_made w #[] 0 (Nat.le_refl _) (by unfold maxLen; omega) (by simp)
    have hcells : ∀ j u, vs[j]? = some u → (w.alloc (.cells #[] 9)).cell? (ad.add j) = some u := fun j u hu => by
      have h2 := (h j u hu).2
      rw [World.cell?_alloc_lt w _ _ (World.block_lt_of_cell? w _ h2)]
      exact h2
    have c2 : 0 + vs.length ≤ maxLen := by unfold maxLen; omega
    have c3 : (0 + vs.length) * 16 ≤ 140737488355328 := by omega
    have HC := Lib.hid hcells
    have HO := Lib.hid hown
    have H1 := Lib.hid h1
    clear hcells hown h1 h
    generalize hn : vs.length = n at hl hc c2 c3 ⊢
    have C1 := Lib.hid (show vs.length = n * 1 by omega)
    clear hn
    go_enter Tryd.func23, Tryd.ntmps23
    go_wp2_with (at_builtin; go_must (refine wpList_append_own _ rfl (.tmp 5) (.tmp 6) _ rfl w.heap.size 9 i0 (.string ByteArray.empty) 1 16 Tryd.underlying22 hi hz0 hz1 hz2 rfl (by decide) (.slice (some ⟨w.heap.size, 0, none⟩) 0 0) 0 [] rfl HO.out ad n cap vs rfl C1.out HC.out H1.out c2 c3 (by simp) ?_); intro v1 w1 hown1 hg1 hn1)
    go_ret
    refine ⟨v1, rfl, ?_, ?_⟩
    · have e : vs.length = 0 + n := by have := C1.out; omega
      rw [e]
      simpa using hown1
    · exact ((Below.refl _ _).alloc (Nat.le_refl _) _).grown hg1 (by simp) (fun k hk => by simp [Value.ownBlock] at hk; omega)

theorem grow_none (w : World) : Sort.grow w #[] = w := by
  unfold Sort.grow
  rw [Array.append_empty]

theorem strs_enc (l : List (List UInt8)) : strs l = l.map encStr := rfl

/-- What name.Sort answers. -/
def sortV (l : List (List UInt8)) : List (List UInt8) := Lib.compact ((names l).mergeSort fun x y => decide (x ≤ y))

/-- What a call that answers texts leaves. -/
def TextsAre (w : World) (l : List (List UInt8)) (e : Ending) (w' : World) : Prop :=
  ∃ v', e = .returned v' ∧ SlV w' w'.heap.size v' (strs l) ∧ Below w.heap.size w w'

theorem compact_len (l : List (List UInt8)) : (Lib.compact l).length ≤ l.length := by
  unfold Lib.compact Lib.compactUpTo
  rw [List.length_map]
  exact Nat.le_trans (List.length_filter_le _ _) (by simp)

/-- The last two calls of name.Sort, of a row of the call's own: from the row to what is answered. -/
theorem sort_row (w : World) (B : Nat) (v : Value) (l : List (List UInt8)) (h : w.ownsRow B 9 1 v l.length (strs l)) (hl : l.length ≤ 1000000) :
    (Calls Tryd.prog 25 #[v] w fun e w' => e = .returned (.tuple #[]) ∧ Below B w w' ∧ w'.ownsRow B 9 1 v l.length (strs (l.mergeSort fun x y => decide (x ≤ y)))) := by
  by_cases h0 : l.length = 0
  · obtain ⟨A, c, rfl⟩ := (SlV.of_own h).form
    obtain rfl : l = [] := List.eq_nil_of_length_eq_zero h0
    refine (Tryd.slices_Sort_string_none A c w).mono ?_
    rintro e w' ⟨he, rfl⟩
    exact ⟨he, Below.refl _ _, by simpa using h⟩
  · rcases h.2 with ⟨_, hz⟩ | ⟨g, cap, cur, rfl, hg, hh, hc, hm, hs, ht⟩
    · omega
    · have hH := Go.holds_of_block (w := w) (g := g) (cur := cur) (ss := l) hh (by rw [Nat.mul_one] at ht; exact ht)
      refine (Tryd.slices_Sort_string g 0 cap l w hH (Array.getElem?_eq_some_iff.1 hh).1 (by omega)).mono ?_
      rintro e w' ⟨he, n, os, rfl⟩
      refine ⟨he, ?_, ?_⟩
      · exact (Below.refl B w).grown (Go.grownBy_sorted _) (Nat.le_of_lt (Nat.lt_of_le_of_lt hg (Array.getElem?_eq_some_iff.1 hh).1)) (fun k hk => by injection hk with hk; omega)
      · exact Go.ownsRow_sorted (by simp) hg hh hc hm hs

theorem compact_row (w : World) (B : Nat) (v : Value) (l : List (List UInt8)) (h : w.ownsRow B 9 1 v l.length (strs l)) (hl : l.length ≤ 1000000) :
    (Calls Tryd.prog 26 #[v] w fun e w' => ∃ v', e = .returned v' ∧ Below B w w' ∧ w'.ownsRow B 9 1 v' (Lib.compact l).length (strs (Lib.compact l))) := by
  by_cases h0 : l.length = 0
  · obtain ⟨A, c, rfl⟩ := (SlV.of_own h).form
    obtain rfl : l = [] := List.eq_nil_of_length_eq_zero h0
    refine (Tryd.slices_Compact_string_empty A c w).mono ?_
    rintro e w' ⟨he, rfl⟩
    exact ⟨_, he, Below.refl _ _, h⟩
  · rcases h.2 with ⟨_, hz⟩ | ⟨g, cap, cur, rfl, hg, hh, hc, hm, hs, ht⟩
    · omega
    · have hH := Go.holds_of_block (w := w) (g := g) (cur := cur) (ss := l) hh (by rw [Nat.mul_one] at ht; exact ht)
      have hcl := compact_len l
      refine (Tryd.slices_Compact_string g 0 cap l w hH (by omega) hc).mono ?_
      rintro e w' ⟨he, q, rfl⟩
      have hlen : (Lib.compact l ++ List.replicate (l.length - (Lib.compact l).length) []).length = l.length := by simp; omega
      have h1 := Go.ownsRow_sorted (n := q) (os := #[]) (ts := Lib.compact l ++ List.replicate (l.length - (Lib.compact l).length) []) hlen hg hh hc hm hs
      have h2 := Go.grownBy_sorted (w := w) (g := g) (n := q) (os := #[]) (Lib.compact l ++ List.replicate (l.length - (Lib.compact l).length) []).toArray
      rw [grow_none] at h1 h2
      refine ⟨_, he, (Below.refl B w).grown h2 (Nat.le_of_lt (Nat.lt_of_le_of_lt hg (Array.getElem?_eq_some_iff.1 hh).1)) (fun k hk => by injection hk with hk; omega), ?_⟩
      have h3 := own_cut h1 hcl
      rw [← List.map_take, List.take_left] at h3
      exact h3

theorem names_len (l : List (List UInt8)) : (names l).length ≤ l.length := List.length_filter_le _ _

set_option maxHeartbeats 1000000 in
theorem sort_any (w : World) (B : Nat) (v : Value) (l : List (List UInt8)) (h : SlV w B v (strs l)) (hl : l.length ≤ 1000000) :
    Calls Tryd.prog 15 #[v] w (TextsAre w (sortV l)) := by
  have HC := Lib.hid (clone_strs v (strs l) w B h (strs_one l) (by rw [strs_length]; exact hl))
  have hnl := names_len l
  clear h
  go_enter Tryd.func15, Tryd.ntmps15
  go_wp2_with fail
  refine HC.out.mono ?_
  rintro e w1 ⟨v1, rfl, hown1, hb1⟩
  rw [strs_length] at hown1
  have HB1 := Lib.hid hb1
  have HD := Lib.hid (delete_any w1 w.heap.size v1 l hown1 hb1.size hl)
  clear hown1 hb1 HC
  go_wp2_with fail
  refine HD.out.mono ?_
  rintro e w2 ⟨v2, rfl, hown2, hb2⟩
  have HB2 := Lib.hid (HB1.out.trans hb2)
  have HS := Lib.hid (sort_row w2 w.heap.size v2 (names l) hown2 (by omega))
  clear hown2 hb2 HD HB1
  go_wp2_with fail
  refine HS.out.mono ?_
  rintro e w3 ⟨rfl, hb3, hown3⟩
  have HB3 := Lib.hid (HB2.out.trans hb3)
  have HK := Lib.hid (compact_row w3 w.heap.size v2 ((names l).mergeSort fun x y => decide (x ≤ y)) (by rw [List.length_mergeSort]; exact hown3) (by rw [List.length_mergeSort]; omega))
  clear hown3 hb3 HS HB2
  go_wp2_with fail
  refine HK.out.mono ?_
  rintro e w4 ⟨v4, rfl, hb4, hown4⟩
  have HB4 := Lib.hid (HB3.out.trans hb4)
  have HV := Lib.hid (SlV.of_own hown4)
  clear hown4 hb4 HK HB3
  go_wp2_with fail
  go_ret
  exact ⟨_, rfl, HV.out, HB4.out⟩
end Go.Proofs.YtlpmndljjdljmaaDoor.By
