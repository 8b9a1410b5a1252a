/-
  WALKS of layer 15: the document's own next numbers, of a byte each.
-/
import Derived.Test.YthkbdclnnpcoiaaDoorEa
namespace Go.Proofs.YthkbdclnnpcoiaaDoor.By
open Go.RowKit
open Mem Gm Rf
set_option linter.unusedSimpArgs false

/-- How the reader stands behind k numbers of a byte each. -/
def stN (l : List UInt8) (s : Std) : Nat → Std
  | 0 => s
  | k + 1 => pgS l (stN l s k) 1
theorem stN_le {l : List UInt8} {s : Std} (h : s.1 ≤ l.length) : ∀ k, (stN l s k).1 ≤ l.length
  | 0 => h
  | k + 1 => pgS_le (stN_le h k) _
def vlN (l : List UInt8) (s : Std) (k : Nat) : List Int := (List.range k).map fun i => rvS l (stN l s i) 1
theorem vlN_next (l : List UInt8) (s : Std) (k : Nat) : vlN l s (k + 1) = vlN l s k ++ [rvS l (stN l s k) 1] := by unfold vlN; rw [List.range_succ]; simp
theorem vlN_len (l : List UInt8) (s : Std) (k : Nat) : (vlN l s k).length = k := by simp [vlN]

def NmAns (M : Nat) (l : List UInt8) (s : Std) (w : World) (A : Option Addr) (n c : Nat) (e : Ending) (w' : World) : Prop :=
  ∃ A2 c2, e = .returned (.tuple #[.agg (rdC A n c (stN l s M)), .slice A2 M c2]) ∧ SlV w' w'.heap.size (.slice A2 M c2) (ints (vlN l s M)) ∧ Below w.heap.size w w' ∧ ∀ ad, A2 = some ad → w.heap.size ≤ ad.block

set_option maxRecDepth 100000 in
set_option maxHeartbeats 1000000 in
theorem nums_any (M : Nat) (hM : M ≤ 1000) (w : World) (A : Option Addr) (n c g0 : Nat) (l : List UInt8) (s : Std) (hn : l.length = n) (hl : n ≤ 1000000) (hs : s.1 ≤ n) (hv : SlV w w.heap.size (.slice A n c) (u8s l)) (hg : g0 < w.heap.size) (hw : ∀ k : Nat, k < M → w.cell? ⟨g0, k, none⟩ = some (.int .i64 1)) :
    Calls Tryd.prog 42 #[.agg (rdC A n c s), .slice (some ⟨g0, 0, none⟩) M M] w (NmAns M l s w A n c) := by
  obtain ⟨i0, hi, hz0, hz1, hz2⟩ := info_parts info2
  have HNM := Lib.hid (show ∀ W (k : Nat), Below w.heap.size w W → Calls Tryd.prog 43 #[.agg #[.slice A n c, .int .i64 ((stN l s k).1 : Int), .bool (!(stN l s k).2)], .int .i64 1, .bool false] W fun e w' => e = .returned (.tuple #[.agg #[.slice A n c, .int .i64 ((stN l s (k + 1)).1 : Int), .bool (!(stN l s (k + 1)).2)], .int .i64 (rvS l (stN l s k) 1)]) ∧ Below W.heap.size W w' from fun W k hb => by
    have := rnum_any W w.heap.size A c l (stN l s k).1 (stN l s k).2 false 1 (stN_le (by omega) k) (by omega) (by rw [hn]; exact hv.below hb)
    rw [hn] at this; exact this)
  have HW := Lib.hid (show ∀ W (k : Nat), k < M → Below w.heap.size w W → W.cell? ⟨g0, k, none⟩ = some (.int .i64 1) from fun W k hk hb => (hb.cell hg).trans (hw k hk))
  obtain ⟨W0, hW0⟩ : ∃ W0, (w.alloc (.cells (rdC A n c s) 43)).alloc (.cells #[.slice none 0 0, .int .i64 0, .bool false] 43) = W0 := ⟨_, rfl⟩
  have HS0 := Lib.hid (show Blk W0 w.heap.size 43 (rdC A n c (stN l s 0)) ∧ Blk W0 (w.heap.size + 1) 43 #[.slice none 0 0, .int .i64 0, .bool false] ∧ Below w.heap.size w W0 from by
    rw [← hW0]
    refine ⟨(Blk.new w _ _).alloc _, ?_, to_ (alloc_ _ _) (alloc_ _ _)⟩
    have := Blk.new (w.alloc (.cells (rdC A n c s) 43)) 43 #[.slice none 0 0, .int .i64 0, .bool false]
    rwa [World.size_alloc] at this)
  clear hv hg hw hn hs hl
  unfold rdC at hW0 ⊢
  go_enter Tryd.func42, Tryd.ntmps42
  go_wp2_with fail
  clear hW0
  go_loopw [6, 7] (fun v i wr => ∃ k : Nat, k ≤ M ∧ i = .int .i64 (k : Int) ∧ Blk wr w.heap.size 43 (rdC A n c (stN l s k)) ∧ Blk wr (w.heap.size + 1) 43 #[.slice none 0 0, .int .i64 0, .bool false] ∧ wr.ownsRow (w.heap.size + 2) 2 1 v k (ints (vlN l s k)) ∧ Below w.heap.size w wr ∧ Hid (w.heap.size + 2 ≤ wr.heap.size)) (fun _ i _ => M - (intOf i).toNat)
  case atStart => exact ⟨0, Nat.zero_le _, rfl, HS0.out.1, HS0.out.2.1, World.ownsRow_nil _ _ _ _, HS0.out.2.2, Lib.hid (by have := HS0.out.2.1.lt; omega)⟩
  case round =>
    obtain ⟨k, hk, rfl, hxb, hrb, hown, hbel, HSZ⟩ := hrel
    have HXB := Lib.hid hxb
    have HRB := Lib.hid hrb
    have HOW := Lib.hid hown
    have HBE := Lib.hid hbel
    by_cases hlt : k < M
    · have hkI : (k : Int) < (M : Int) := by omega
      have hwk := HW.out wr k hlt hbel
      have HNK := Lib.hid (fun W (hb : Below w.heap.size w W) => HNM.out W k hb)
      have HVN := Lib.hid (vlN_next l s k)
      have HXB2 := Lib.hid (show Blk wr w.heap.size 43 #[.slice A n c, .int .i64 ((stN l s k).1 : Int), .bool (!(stN l s k).2)] from hxb)
      obtain ⟨x0, x1, x2⟩ := blk_ce3 HXB2.out
      obtain ⟨f0, f1, f2⟩ := blk_fr3 HXB2.out
      obtain ⟨p, hp⟩ : ∃ p : Nat, (stN l s k).1 = p := ⟨_, rfl⟩
      obtain ⟨bd, hbd⟩ : ∃ bd, (!(stN l s k).2) = bd := ⟨_, rfl⟩
      rw [hp] at x1 HNK HXB2
      rw [hbd] at x2 HNK HXB2
      generalize rvS l (stN l s k) 1 = z at HNK HVN
      obtain ⟨t, ht⟩ : ∃ t, stN l s (k + 1) = t := ⟨_, rfl⟩
      rw [ht] at HNK
      have HT := Lib.hid ht

      clear hxb hrb hown hbel hp hbd ht
      have HSS := Lib.hid (show ∀ W, Below wr.heap.size wr W → (W.cell? ⟨w.heap.size, 0, none⟩ = some (.slice A n c) ∧ W.cell? ⟨w.heap.size, 1, none⟩ = some (.int .i64 (p : Int)) ∧ W.cell? ⟨w.heap.size, 2, none⟩ = some (.bool bd)) ∧ W.cell? ⟨g0, k, none⟩ = some (.int .i64 1) from fun W hb => ⟨⟨(hb.cell (World.block_lt_of_cell? _ _ x0)).trans x0, (hb.cell (World.block_lt_of_cell? _ _ x1)).trans x1, (hb.cell (World.block_lt_of_cell? _ _ x2)).trans x2⟩, (hb.cell (World.block_lt_of_cell? _ _ hwk)).trans hwk⟩)
      go_wp2_with fail
      refine wp_region_noPanic ?_
      refine wp_region_held_drew (S := fun W => (W.cell? ⟨w.heap.size, 0, none⟩ = some (.slice A n c) ∧ W.cell? ⟨w.heap.size, 1, none⟩ = some (.int .i64 (p : Int)) ∧ W.cell? ⟨w.heap.size, 2, none⟩ = some (.bool bd)) ∧ W.cell? ⟨g0, k, none⟩ = some (.int .i64 1)) (by kernel_rfl) (⟨⟨x0, x1, x2⟩, hwk⟩) (fun hHeld => ?_)
      refine wpAnyH_take (i := 0) rfl (by kernel_rfl) (by kernel_rfl) (by kernel_rfl) (fun _ _ _ h => h) (Or.inl ⟨by rfl, by intro W hSW; (try dsimp only at hSW); go_simp; try (with_reducible rfl)⟩) hHeld ?_
      try simp only [Act.put, List.getElem_toArray, List.getElem_cons_zero, List.getElem_cons_succ, List.setIfInBounds_toArray, List.set_cons_zero, List.set_cons_succ]
      refine wpAnyH_take (i := 1) rfl (by kernel_rfl) (by kernel_rfl) (by kernel_rfl) (fun _ _ _ h => h) (Or.inl ⟨by rfl, by intro W hSW; (try dsimp only at hSW); go_simp; try (with_reducible rfl)⟩) hHeld ?_
      try simp only [Act.put, List.getElem_toArray, List.getElem_cons_zero, List.getElem_cons_succ, List.setIfInBounds_toArray, List.set_cons_zero, List.set_cons_succ]
      refine wpAnyH_take (i := 2) rfl (by kernel_rfl) (by kernel_rfl) (by kernel_rfl) (fun _ _ _ h => h) (Or.inl ⟨by rfl, by intro W hSW; (try dsimp only at hSW); go_simp; try (with_reducible rfl)⟩) hHeld ?_
      try simp only [Act.put, List.getElem_toArray, List.getElem_cons_zero, List.getElem_cons_succ, List.setIfInBounds_toArray, List.set_cons_zero, List.set_cons_succ]
      refine wpAnyH_take (i := 3) rfl (by kernel_rfl) (by kernel_rfl) (by kernel_rfl) (fun _ _ _ h => h) (Or.inl ⟨by rfl, by intro W hSW; (try dsimp only at hSW); go_simp; try (with_reducible rfl)⟩) hHeld ?_
      try simp only [Act.put, List.getElem_toArray, List.getElem_cons_zero, List.getElem_cons_succ, List.setIfInBounds_toArray, List.set_cons_zero, List.set_cons_succ]
      refine wpAnyH_take (i := 4) rfl (by kernel_rfl) (by kernel_rfl) (by kernel_rfl) (fun _ _ _ h => h) (Or.inl ⟨by rfl, by intro W hSW; (try dsimp only at hSW); go_simp; try (with_reducible rfl)⟩) hHeld ?_
      try simp only [Act.put, List.getElem_toArray, List.getElem_cons_zero, List.getElem_cons_succ, List.setIfInBounds_toArray, List.set_cons_zero, List.set_cons_succ]
      refine wpAnyH_ready (rs := [5, 9]) (by kernel_rfl) (by simp) ?_
      refine AllReadyH.cons rfl (fun K hK => ?_) (AllReadyH.cons rfl (fun K hK => ?_) AllReadyH.nil)
      · go_simp
        refine (HNK.out wr.drew HBE.out.drew).mono ?_
        rintro e w2 ⟨rfl, b2⟩
        have B2 := Lib.hid (show Below wr.heap.size wr w2 from (Below.refl _ wr).drew.trans b2)
        clear b2
        try go_wp2_with fail
        refine hK.out _ _ (HSS.out _ B2.out) ?_
        clear hK K hHeld
        intro hHeld
        try simp only [Act.put, List.getElem_toArray, List.getElem_cons_zero, List.getElem_cons_succ, List.setIfInBounds_toArray, List.set_cons_zero, List.set_cons_succ]
        refine wpAnyH_take (i := 6) rfl (by kernel_rfl) (by kernel_rfl) (by kernel_rfl) (fun _ _ _ h => h) (Or.inl ⟨by rfl, by intro W hSW; (try dsimp only at hSW); go_simp; try (with_reducible rfl)⟩) hHeld ?_
        try simp only [Act.put, List.getElem_toArray, List.getElem_cons_zero, List.getElem_cons_succ, List.setIfInBounds_toArray, List.set_cons_zero, List.set_cons_succ]
        refine wpAnyH_take (i := 7) rfl (by kernel_rfl) (by kernel_rfl) (by kernel_rfl) (fun _ _ _ h => h) (Or.inl ⟨by rfl, by intro W hSW; (try dsimp only at hSW); go_simp; try (with_reducible rfl)⟩) hHeld ?_
        try simp only [Act.put, List.getElem_toArray, List.getElem_cons_zero, List.getElem_cons_succ, List.setIfInBounds_toArray, List.set_cons_zero, List.set_cons_succ]
        refine wpAnyH_take (i := 8) rfl (by kernel_rfl) (by kernel_rfl) (by kernel_rfl) (fun _ _ _ h => h) (Or.inl ⟨by rfl, by intro W hSW; (try dsimp only at hSW); go_simp; try (with_reducible rfl)⟩) hHeld ?_
        try simp only [Act.put, List.getElem_toArray, List.getElem_cons_zero, List.getElem_cons_succ, List.setIfInBounds_toArray, List.set_cons_zero, List.set_cons_succ]
        refine wpAnyH_ready (rs := [9]) (by kernel_rfl) (by simp) ?_
        refine AllReadyH.cons rfl (fun K hK => ?_) AllReadyH.nil
        go_simp
        refine hK.out _ _ (HSS.out _ (to_ B2.out (alloc_ _ _))) ?_
        clear hK K hHeld
        intro hHeld
        try simp only [Act.put, List.getElem_toArray, List.getElem_cons_zero, List.getElem_cons_succ, List.setIfInBounds_toArray, List.set_cons_zero, List.set_cons_succ]
        refine wpAnyH_ready (rs := [10]) (by kernel_rfl) (by simp) ?_
        refine AllReadyH.cons rfl (fun K hK => ?_) AllReadyH.nil
        go_simp
        obtain ⟨wf, hwf⟩ : ∃ wf, w2.alloc (.cells #[.slice A n c, .int .i64 (t.1 : Int), .bool (!t.2)] 43) = wf := ⟨_, rfl⟩
        rw [hwf]
        have HFW := Lib.hid (show Below wr.heap.size wr wf from by rw [← hwf]; exact to_ B2.out (alloc_ _ _))
        have HFB := Lib.hid (show Blk wf w2.heap.size 43 #[.slice A n c, .int .i64 (t.1 : Int), .bool (!t.2)] from by rw [← hwf]; exact Blk.new w2 _ _)
        clear hwf x0 x1 x2 f0 f1 f2 hwk
        refine hK.out _ _ (HSS.out _ HFW.out) ?_
        clear hK K hHeld
        intro hHeld
        try simp only [Act.put, List.getElem_toArray, List.getElem_cons_zero, List.getElem_cons_succ, List.setIfInBounds_toArray, List.set_cons_zero, List.set_cons_succ]
        refine wpAnyH_take (i := 11) rfl (by kernel_rfl) (by kernel_rfl) (by kernel_rfl) (fun _ _ _ h => h) (Or.inl ⟨by rfl, by intro W hSW; (try dsimp only at hSW); go_simp; try (with_reducible rfl)⟩) hHeld ?_
        try simp only [Act.put, List.getElem_toArray, List.getElem_cons_zero, List.getElem_cons_succ, List.setIfInBounds_toArray, List.set_cons_zero, List.set_cons_succ]
        refine wpAnyH_done (by kernel_rfl) ?_ _
        refine NoPanic.normal ?_
        obtain ⟨y0, y1, y2⟩ := blk_ce3 HFB.out
        have HXF := Lib.hid (HXB2.out.below HFW.out HXB.out.lt)
        obtain ⟨x0, x1, x2⟩ := blk_ce3 HXF.out
        obtain ⟨f0, f1, f2⟩ := blk_fr3 HXF.out
        have hk9 : k ≤ 1000 := by omega
        clear hk
        obtain ⟨wg, hwg⟩ : ∃ wg, ((wf.setCell ⟨w.heap.size, 0, none⟩ (.slice A n c)).setCell ⟨w.heap.size, 1, none⟩ (.int .i64 (t.1 : Int))).setCell ⟨w.heap.size, 2, none⟩ (.bool (!t.2)) = wg := ⟨_, rfl⟩
        have HOG := Lib.hid (show wg.ownsRow (w.heap.size + 2) 2 1 _ k (ints (vlN l s k)) from by rw [← hwg]; exact ownk_keep HOW.out fun gg hb hlt => (heap_put3 wf w.heap.size gg (by omega) _ _ _).trans (HFW.out.block gg hlt))
        have HOGS := Lib.hid (show w.heap.size + 2 ≤ wg.heap.size from by rw [← hwg]; have := HSZ.out; have := HFW.out.size; simp; omega)
        have HBG := Lib.hid (show Below w.heap.size w wg from by rw [← hwg]; exact below_put3 (to_ HBE.out HFW.out) _ (Nat.le_refl _) _ _ _)
        have HXG := Lib.hid (show Blk wg w.heap.size 43 #[.slice A n c, .int .i64 (t.1 : Int), .bool (!t.2)] from by rw [← hwg]; exact blk_put3 HXF.out _ _ _)
        have HRG := Lib.hid (show Blk wg (w.heap.size + 1) 43 #[.slice none 0 0, .int .i64 0, .bool false] from by rw [← hwg]; exact blk_away3 (HRB.out.below HFW.out HRB.out.lt) _ (by omega) _ _ _)
        go_wp2_with (at_builtin; go_loud (refine wpList_append_own _ rfl _ _ 22 rfl (w.heap.size + 2) 2 i0 (.int .i64 0) 1 8 Tryd.underlying22 hi hz0 hz1 hz2 rfl (by decide) _ _ _ rfl (ownk_keep HOG.out fun gg hb hlt => Below.heap_alloc _ _ _ hlt) ⟨wg.heap.size, 0, none⟩ 1 1 [.int .i64 z] rfl rfl (fun j u hu => by rw [add_plain, Nat.zero_add]; exact ((Blk.new wg 2 #[.int .i64 z]).cell j).trans (by simpa using hu)) (by simp [Value.oneCell']) (by unfold maxLen; omega) (by omega) (by have := HOGS.out; simp; omega) ?_; intro v' w4 h2 h3 h4; clear h4; have H2 := Lib.hid h2; have H3 := Lib.hid h3; clear h2 h3))
        clear hwg x0 x1 x2 f0 f1 f2 y0 y1 y2
        go_roundw
        case rel =>
          have hb4 : Below w.heap.size w w4 := (to_ HBG.out (alloc_ _ _)).grown H3.out (to_ HBG.out (alloc_ _ _)).size fun r e => by have := (HOG.out.lt r e).1; omega
          have hne : ∀ g, g < w.heap.size + 2 → w4.heap[g]? = wg.heap[g]? := fun g hg => (H3.out.block g (by have := HOGS.out; simp; omega) (fun e => by have := (HOG.out.lt g e.symm).1; omega)).trans (Below.heap_alloc _ _ _ (by have := HOGS.out; omega))
          refine ⟨k + 1, by omega, by go_num, ?_, (hne _ (by omega)).trans HRG.out, ?_, hb4, Lib.hid (by have := HOGS.out; have := H3.out.size; simp at this; omega)⟩
          · rw [HT.out]; exact (hne _ (by omega)).trans HXG.out
          · rw [HVN.out, ← ints_app1]; exact H2.out
        case measure => simp [intOf]; omega
      · go_simp
        refine hK.out _ _ (HSS.out _ (alloc_ _ _).drew) ?_
        clear hK K hHeld
        intro hHeld
        try simp only [Act.put, List.getElem_toArray, List.getElem_cons_zero, List.getElem_cons_succ, List.setIfInBounds_toArray, List.set_cons_zero, List.set_cons_succ]
        refine wpAnyH_ready (rs := [5]) (by kernel_rfl) (by simp) ?_
        refine AllReadyH.cons rfl (fun K hK => ?_) AllReadyH.nil
        go_simp
        refine (HNK.out _ (to_ HBE.out (alloc_ _ _)).drew).mono ?_
        rintro e w2 ⟨rfl, b2⟩
        have hb2 : Below (wr.heap.size + 1) (wr.alloc (.cells #[.slice none 0 0, .int .i64 0, .bool false] 43)) w2 := by have this : Below (wr.alloc (.cells #[.slice none 0 0, .int .i64 0, .bool false] 43)).heap.size (wr.alloc (.cells #[.slice none 0 0, .int .i64 0, .bool false] 43)) w2 := (Below.refl _ (wr.alloc (.cells #[.slice none 0 0, .int .i64 0, .bool false] 43))).drew.trans b2; rwa [World.size_alloc] at this
        have hzb : Blk w2 wr.heap.size 43 #[.slice none 0 0, .int .i64 0, .bool false] := (Blk.new wr 43 #[.slice none 0 0, .int .i64 0, .bool false]).below hb2 (by omega)
        have B2 := Lib.hid (show Below wr.heap.size wr w2 from (alloc_ _ _).trans (hb2.mono (by omega)))
        have HZB := Lib.hid hzb
        clear b2 hb2 hzb
        try go_wp2_with fail
        refine hK.out _ _ (HSS.out _ B2.out) ?_
        clear hK K hHeld
        intro hHeld
        try simp only [Act.put, List.getElem_toArray, List.getElem_cons_zero, List.getElem_cons_succ, List.setIfInBounds_toArray, List.set_cons_zero, List.set_cons_succ]
        refine wpAnyH_take (i := 6) rfl (by kernel_rfl) (by kernel_rfl) (by kernel_rfl) (fun _ _ _ h => h) (Or.inl ⟨by rfl, by intro W hSW; (try dsimp only at hSW); go_simp; try (with_reducible rfl)⟩) hHeld ?_
        try simp only [Act.put, List.getElem_toArray, List.getElem_cons_zero, List.getElem_cons_succ, List.setIfInBounds_toArray, List.set_cons_zero, List.set_cons_succ]
        refine wpAnyH_take (i := 7) rfl (by kernel_rfl) (by kernel_rfl) (by kernel_rfl) (fun _ _ _ h => h) (Or.inl ⟨by rfl, by intro W hSW; (try dsimp only at hSW); go_simp; try (with_reducible rfl)⟩) hHeld ?_
        try simp only [Act.put, List.getElem_toArray, List.getElem_cons_zero, List.getElem_cons_succ, List.setIfInBounds_toArray, List.set_cons_zero, List.set_cons_succ]
        refine wpAnyH_take (i := 8) rfl (by kernel_rfl) (by kernel_rfl) (by kernel_rfl) (fun _ _ _ h => h) (Or.inl ⟨by rfl, by intro W hSW; (try dsimp only at hSW); go_simp; try (with_reducible rfl)⟩) hHeld ?_
        try simp only [Act.put, List.getElem_toArray, List.getElem_cons_zero, List.getElem_cons_succ, List.setIfInBounds_toArray, List.set_cons_zero, List.set_cons_succ]
        clear x0 x1 x2 f0 f1 f2 hwk
        obtain ⟨x0, x1, x2⟩ := blk_ce3 HZB.out
        obtain ⟨f0, f1, f2⟩ := blk_fr3 HZB.out
        refine wpAnyH_ready (rs := [10]) (by kernel_rfl) (by simp) ?_
        refine AllReadyH.cons rfl (fun K hK => ?_) AllReadyH.nil
        go_simp
        obtain ⟨wf, hwf⟩ : ∃ wf, (((w2).setCell ⟨wr.heap.size, 0, none⟩ (.slice A n c)).setCell ⟨wr.heap.size, 1, none⟩ (.int .i64 (t.1 : Int))).setCell ⟨wr.heap.size, 2, none⟩ (.bool (!t.2)) = wf := ⟨_, rfl⟩
        rw [hwf]
        have HFW := Lib.hid (show Below wr.heap.size wr wf from by rw [← hwf]; exact below_put3 B2.out _ (Nat.le_refl _) _ _ _)
        have HFB := Lib.hid (show Blk wf wr.heap.size 43 #[.slice A n c, .int .i64 (t.1 : Int), .bool (!t.2)] from by rw [← hwf]; exact blk_put3 HZB.out _ _ _)
        clear hwf x0 x1 x2 f0 f1 f2
        refine hK.out _ _ (HSS.out _ HFW.out) ?_
        clear hK K hHeld
        intro hHeld
        try simp only [Act.put, List.getElem_toArray, List.getElem_cons_zero, List.getElem_cons_succ, List.setIfInBounds_toArray, List.set_cons_zero, List.set_cons_succ]
        refine wpAnyH_take (i := 11) rfl (by kernel_rfl) (by kernel_rfl) (by kernel_rfl) (fun _ _ _ h => h) (Or.inl ⟨by rfl, by intro W hSW; (try dsimp only at hSW); go_simp; try (with_reducible rfl)⟩) hHeld ?_
        try simp only [Act.put, List.getElem_toArray, List.getElem_cons_zero, List.getElem_cons_succ, List.setIfInBounds_toArray, List.set_cons_zero, List.set_cons_succ]
        refine wpAnyH_done (by kernel_rfl) ?_ _
        refine NoPanic.normal ?_
        obtain ⟨y0, y1, y2⟩ := blk_ce3 HFB.out
        have HXF := Lib.hid (HXB2.out.below HFW.out HXB.out.lt)
        obtain ⟨x0, x1, x2⟩ := blk_ce3 HXF.out
        obtain ⟨f0, f1, f2⟩ := blk_fr3 HXF.out
        have hk9 : k ≤ 1000 := by omega
        clear hk
        obtain ⟨wg, hwg⟩ : ∃ wg, ((wf.setCell ⟨w.heap.size, 0, none⟩ (.slice A n c)).setCell ⟨w.heap.size, 1, none⟩ (.int .i64 (t.1 : Int))).setCell ⟨w.heap.size, 2, none⟩ (.bool (!t.2)) = wg := ⟨_, rfl⟩
        have HOG := Lib.hid (show wg.ownsRow (w.heap.size + 2) 2 1 _ k (ints (vlN l s k)) from by rw [← hwg]; exact ownk_keep HOW.out fun gg hb hlt => (heap_put3 wf w.heap.size gg (by omega) _ _ _).trans (HFW.out.block gg hlt))
        have HOGS := Lib.hid (show w.heap.size + 2 ≤ wg.heap.size from by rw [← hwg]; have := HSZ.out; have := HFW.out.size; simp; omega)
        have HBG := Lib.hid (show Below w.heap.size w wg from by rw [← hwg]; exact below_put3 (to_ HBE.out HFW.out) _ (Nat.le_refl _) _ _ _)
        have HXG := Lib.hid (show Blk wg w.heap.size 43 #[.slice A n c, .int .i64 (t.1 : Int), .bool (!t.2)] from by rw [← hwg]; exact blk_put3 HXF.out _ _ _)
        have HRG := Lib.hid (show Blk wg (w.heap.size + 1) 43 #[.slice none 0 0, .int .i64 0, .bool false] from by rw [← hwg]; exact blk_away3 (HRB.out.below HFW.out HRB.out.lt) _ (by omega) _ _ _)
        go_wp2_with (at_builtin; go_loud (refine wpList_append_own _ rfl _ _ 22 rfl (w.heap.size + 2) 2 i0 (.int .i64 0) 1 8 Tryd.underlying22 hi hz0 hz1 hz2 rfl (by decide) _ _ _ rfl (ownk_keep HOG.out fun gg hb hlt => Below.heap_alloc _ _ _ hlt) ⟨wg.heap.size, 0, none⟩ 1 1 [.int .i64 z] rfl rfl (fun j u hu => by rw [add_plain, Nat.zero_add]; exact ((Blk.new wg 2 #[.int .i64 z]).cell j).trans (by simpa using hu)) (by simp [Value.oneCell']) (by unfold maxLen; omega) (by omega) (by have := HOGS.out; simp; omega) ?_; intro v' w4 h2 h3 h4; clear h4; have H2 := Lib.hid h2; have H3 := Lib.hid h3; clear h2 h3))
        clear hwg x0 x1 x2 f0 f1 f2 y0 y1 y2
        go_roundw
        case rel =>
          have hb4 : Below w.heap.size w w4 := (to_ HBG.out (alloc_ _ _)).grown H3.out (to_ HBG.out (alloc_ _ _)).size fun r e => by have := (HOG.out.lt r e).1; omega
          have hne : ∀ g, g < w.heap.size + 2 → w4.heap[g]? = wg.heap[g]? := fun g hg => (H3.out.block g (by have := HOGS.out; simp; omega) (fun e => by have := (HOG.out.lt g e.symm).1; omega)).trans (Below.heap_alloc _ _ _ (by have := HOGS.out; omega))
          refine ⟨k + 1, by omega, by go_num, ?_, (hne _ (by omega)).trans HRG.out, ?_, hb4, Lib.hid (by have := HOGS.out; have := H3.out.size; simp at this; omega)⟩
          · rw [HT.out]; exact (hne _ (by omega)).trans HXG.out
          · rw [HVN.out, ← ints_app1]; exact H2.out
        case measure => simp [intOf]; omega
    · obtain rfl : k = M := by omega
      have HXB2 := Lib.hid (show Blk wr w.heap.size 43 #[.slice A n c, .int .i64 ((stN l s k).1 : Int), .bool (!(stN l s k).2)] from hxb)
      obtain ⟨x0, x1, x2⟩ := blk_ce3 HXB2.out
      obtain ⟨y0, y1, y2⟩ := blk_ce3 HRB.out
      obtain ⟨f0, f1, f2⟩ := blk_fr3 HRB.out
      obtain ⟨A2, c2, rfl⟩ := own_formW hown
      obtain ⟨t, ht⟩ : ∃ t, stN l s k = t := ⟨_, rfl⟩
      have HS5 := Lib.hid ht
      rw [ht] at x1 x2
      clear hxb hrb hown hbel ht HXB2
      go_wp2_with fail
      refine bodyPost_ret (v := .tuple #[.agg #[.slice A n c, .int .i64 (t.1 : Int), .bool (!t.2)], .slice A2 k c2]) (by simp [results, Tryd.results42, go_sem, y0, y1, y2]) rfl ?_
      have hown2 : ((((wr.setCell ⟨w.heap.size + 1, 0, none⟩ (.slice A n c)).setCell ⟨w.heap.size + 1, 1, none⟩ (.int .i64 (t.1 : Int))).setCell ⟨w.heap.size + 1, 2, none⟩ (.bool (!t.2)))).ownsRow (w.heap.size + 2) 2 1 (.slice A2 k c2) k (ints (vlN l s k)) := ownk_keep HOW.out fun gg hb hlt => heap_put3 wr (w.heap.size + 1) gg (by omega) _ _ _
      refine ⟨A2, c2, by rw [HS5.out]; rfl, SlV.of_own hown2, below_put3 HBE.out _ (by omega) _ _ _, fun ad e => by subst e; have := (HOW.out.lt ad.block rfl).1; omega⟩
end Go.Proofs.YthkbdclnnpcoiaaDoor.By
