/-
  WALKS of layer 15: the document's own next numbers, of a byte each. WALKS of layer 15: data of bytes: take, Get. WALKS of layer 15: data of bytes: Get.
-/
import Derived.Test.YtbknmapkdjmcjaaGreatDoorEa
namespace Go.Proofs.YtbknmapkdjmcjaaGreatDoor.By
open Go.RowKit
open Mem Gm Rf
set_option linter.unusedSimpArgs false

/-- How the reader stands behind k numbers of a byte each. -/
def stN (l : List UInt8) (s : Std) : Nat → Std
  | 0 => s
  | k + 1 => pgS l (stN l s k) 1
theorem stN_le {l : List UInt8} {s : Std} (h : s.1 ≤ l.length) : ∀ k, (stN l s k).1 ≤ l.length
  | 0 => h
  | k + 1 => pgS_le (stN_le h k) _
def vlN (l : List UInt8) (s : Std) (k : Nat) : List Int := (List.range k).map fun i => rvS l (stN l s i) 1
theorem vlN_next (l : List UInt8) (s : Std) (k : Nat) : vlN l s (k + 1) = vlN l s k ++ [rvS l (stN l s k) 1] := by unfold vlN; rw [List.range_succ]; simp
theorem vlN_len (l : List UInt8) (s : Std) (k : Nat) : (vlN l s k).length = k := by simp [vlN]

def NmAns (M : Nat) (l : List UInt8) (s : Std) (w : World) (A : Option Addr) (n c : Nat) (e : Ending) (w' : World) : Prop :=
  ∃ A2 c2, e = .returned (.tuple #[.agg (rdC A n c (stN l s M)), .slice A2 M c2]) ∧ SlV w' w'.heap.size (.slice A2 M c2) (ints (vlN l s M)) ∧ Below w.heap.size w w' ∧ ∀ ad, A2 = some ad → w.heap.size ≤ ad.block

set_option maxRecDepth 100000 in
set_option maxHeartbeats 1000000 in
theorem nums_any (M : Nat) (hM : M ≤ 1000) (w : World) (A : Option Addr) (n c g0 : Nat) (l : List UInt8) (s : Std) (hn : l.length = n) (hl : n ≤ 1000000) (hs : s.1 ≤ n) (hv : SlV w w.heap.size (.slice A n c) (u8s l)) (hg : g0 < w.heap.size) (hw : ∀ k : Nat, k < M → w.cell? ⟨g0, k, none⟩ = some (.int .i64 1)) :
    Calls Tryz.prog 163 #[.agg (rdC A n c s), .slice (some ⟨g0, 0, none⟩) M M] w (NmAns M l s w A n c) := by
  obtain ⟨i0, hi, hz0, hz1, hz2⟩ := info_parts info2
  have HNM := Lib.hid (show ∀ W (k : Nat), Below w.heap.size w W → Calls Tryz.prog 86 #[.agg #[.slice A n c, .int .i64 ((stN l s k).1 : Int), .bool (!(stN l s k).2)], .int .i64 1, .bool false] W fun e w' => e = .returned (.tuple #[.agg #[.slice A n c, .int .i64 ((stN l s (k + 1)).1 : Int), .bool (!(stN l s (k + 1)).2)], .int .i64 (rvS l (stN l s k) 1)]) ∧ Below W.heap.size W w' from fun W k hb => by
    have := rnum_any W w.heap.size A c l (stN l s k).1 (stN l s k).2 false 1 (stN_le (by omega) k) (by omega) (by rw [hn]; exact hv.below hb)
    rw [hn] at this; exact this)
  have HW := Lib.hid (show ∀ W (k : Nat), k < M → Below w.heap.size w W → W.cell? ⟨g0, k, none⟩ = some (.int .i64 1) from fun W k hk hb => (hb.cell hg).trans (hw k hk))
  obtain ⟨W0, hW0⟩ : ∃ W0, (w.alloc (.cells (rdC A n c s) 42)).alloc (.cells #[.slice none 0 0, .int .i64 0, .bool false] 42) = W0 := ⟨_, rfl⟩
  have HS0 := Lib.hid (show Blk W0 w.heap.size 42 (rdC A n c (stN l s 0)) ∧ Blk W0 (w.heap.size + 1) 42 #[.slice none 0 0, .int .i64 0, .bool false] ∧ Below w.heap.size w W0 from by
    rw [← hW0]
    refine ⟨(Blk.new w _ _).alloc _, ?_, to_ (alloc_ _ _) (alloc_ _ _)⟩
    have := Blk.new (w.alloc (.cells (rdC A n c s) 42)) 42 #[.slice none 0 0, .int .i64 0, .bool false]
    rwa [World.size_alloc] at this)
  clear hv hg hw hn hs hl
  unfold rdC at hW0 ⊢
  go_enter Tryz.func163, Tryz.ntmps163
  go_wp2_with fail
  clear hW0
  go_loopw [6, 7] (fun v i wr => ∃ k : Nat, k ≤ M ∧ i = .int .i64 (k : Int) ∧ Blk wr w.heap.size 42 (rdC A n c (stN l s k)) ∧ Blk wr (w.heap.size + 1) 42 #[.slice none 0 0, .int .i64 0, .bool false] ∧ wr.ownsRow (w.heap.size + 2) 2 1 v k (ints (vlN l s k)) ∧ Below w.heap.size w wr ∧ Hid (w.heap.size + 2 ≤ wr.heap.size)) (fun _ i _ => M - (intOf i).toNat)
  case atStart => exact ⟨0, Nat.zero_le _, rfl, HS0.out.1, HS0.out.2.1, World.ownsRow_nil _ _ _ _, HS0.out.2.2, Lib.hid (by have := HS0.out.2.1.lt; omega)⟩
  case round =>
    obtain ⟨k, hk, rfl, hxb, hrb, hown, hbel, HSZ⟩ := hrel
    have HXB := Lib.hid hxb
    have HRB := Lib.hid hrb
    have HOW := Lib.hid hown
    have HBE := Lib.hid hbel
    by_cases hlt : k < M
    · have hkI : (k : Int) < (M : Int) := by omega
      have hwk := HW.out wr k hlt hbel
      have HNK := Lib.hid (fun W (hb : Below w.heap.size w W) => HNM.out W k hb)
      have HVN := Lib.hid (vlN_next l s k)
      have HXB2 := Lib.hid (show Blk wr w.heap.size 42 #[.slice A n c, .int .i64 ((stN l s k).1 : Int), .bool (!(stN l s k).2)] from hxb)
      obtain ⟨x0, x1, x2⟩ := blk_ce3 HXB2.out
      obtain ⟨f0, f1, f2⟩ := blk_fr3 HXB2.out
      obtain ⟨p, hp⟩ : ∃ p : Nat, (stN l s k).1 = p := ⟨_, rfl⟩
      obtain ⟨bd, hbd⟩ : ∃ bd, (!(stN l s k).2) = bd := ⟨_, rfl⟩
      rw [hp] at x1 HNK HXB2
      rw [hbd] at x2 HNK HXB2
      generalize rvS l (stN l s k) 1 = z at HNK HVN
      obtain ⟨t, ht⟩ : ∃ t, stN l s (k + 1) = t := ⟨_, rfl⟩
      rw [ht] at HNK
      have HT := Lib.hid ht

      clear hxb hrb hown hbel hp hbd ht
      have HSS := Lib.hid (show ∀ W, Below wr.heap.size wr W → (W.cell? ⟨w.heap.size, 0, none⟩ = some (.slice A n c) ∧ W.cell? ⟨w.heap.size, 1, none⟩ = some (.int .i64 (p : Int)) ∧ W.cell? ⟨w.heap.size, 2, none⟩ = some (.bool bd)) ∧ W.cell? ⟨g0, k, none⟩ = some (.int .i64 1) from fun W hb => ⟨⟨(hb.cell (World.block_lt_of_cell? _ _ x0)).trans x0, (hb.cell (World.block_lt_of_cell? _ _ x1)).trans x1, (hb.cell (World.block_lt_of_cell? _ _ x2)).trans x2⟩, (hb.cell (World.block_lt_of_cell? _ _ hwk)).trans hwk⟩)
      go_wp2_with fail
      refine wp_region_noPanic ?_
      refine wp_region_held_drew (S := fun W => (W.cell? ⟨w.heap.size, 0, none⟩ = some (.slice A n c) ∧ W.cell? ⟨w.heap.size, 1, none⟩ = some (.int .i64 (p : Int)) ∧ W.cell? ⟨w.heap.size, 2, none⟩ = some (.bool bd)) ∧ W.cell? ⟨g0, k, none⟩ = some (.int .i64 1)) (by kernel_rfl) (⟨⟨x0, x1, x2⟩, hwk⟩) (fun hHeld => ?_)
      refine wpAnyH_take (i := 0) rfl (by kernel_rfl) (by kernel_rfl) (by kernel_rfl) (fun _ _ _ h => h) (Or.inl ⟨by rfl, by intro W hSW; (try dsimp only at hSW); go_simp; try (with_reducible rfl)⟩) hHeld ?_
      try simp only [Act.put, List.getElem_toArray, List.getElem_cons_zero, List.getElem_cons_succ, List.setIfInBounds_toArray, List.set_cons_zero, List.set_cons_succ]
      refine wpAnyH_take (i := 1) rfl (by kernel_rfl) (by kernel_rfl) (by kernel_rfl) (fun _ _ _ h => h) (Or.inl ⟨by rfl, by intro W hSW; (try dsimp only at hSW); go_simp; try (with_reducible rfl)⟩) hHeld ?_
      try simp only [Act.put, List.getElem_toArray, List.getElem_cons_zero, List.getElem_cons_succ, List.setIfInBounds_toArray, List.set_cons_zero, List.set_cons_succ]
      refine wpAnyH_take (i := 2) rfl (by kernel_rfl) (by kernel_rfl) (by kernel_rfl) (fun _ _ _ h => h) (Or.inl ⟨by rfl, by intro W hSW; (try dsimp only at hSW); go_simp; try (with_reducible rfl)⟩) hHeld ?_
      try simp only [Act.put, List.getElem_toArray, List.getElem_cons_zero, List.getElem_cons_succ, List.setIfInBounds_toArray, List.set_cons_zero, List.set_cons_succ]
      refine wpAnyH_take (i := 3) rfl (by kernel_rfl) (by kernel_rfl) (by kernel_rfl) (fun _ _ _ h => h) (Or.inl ⟨by rfl, by intro W hSW; (try dsimp only at hSW); go_simp; try (with_reducible rfl)⟩) hHeld ?_
      try simp only [Act.put, List.getElem_toArray, List.getElem_cons_zero, List.getElem_cons_succ, List.setIfInBounds_toArray, List.set_cons_zero, List.set_cons_succ]
      refine wpAnyH_take (i := 4) rfl (by kernel_rfl) (by kernel_rfl) (by kernel_rfl) (fun _ _ _ h => h) (Or.inl ⟨by rfl, by intro W hSW; (try dsimp only at hSW); go_simp; try (with_reducible rfl)⟩) hHeld ?_
      try simp only [Act.put, List.getElem_toArray, List.getElem_cons_zero, List.getElem_cons_succ, List.setIfInBounds_toArray, List.set_cons_zero, List.set_cons_succ]
      refine wpAnyH_ready (rs := [5, 9]) (by kernel_rfl) (by simp) ?_
      refine AllReadyH.cons rfl (fun K hK => ?_) (AllReadyH.cons rfl (fun K hK => ?_) AllReadyH.nil)
      · go_simp
        refine (HNK.out wr.drew HBE.out.drew).mono ?_
        rintro e w2 ⟨rfl, b2⟩
        have B2 := Lib.hid (show Below wr.heap.size wr w2 from (Below.refl _ wr).drew.trans b2)
        clear b2
        try go_wp2_with fail
        refine hK.out _ _ (HSS.out _ B2.out) ?_
        clear hK K hHeld
        intro hHeld
        try simp only [Act.put, List.getElem_toArray, List.getElem_cons_zero, List.getElem_cons_succ, List.setIfInBounds_toArray, List.set_cons_zero, List.set_cons_succ]
        refine wpAnyH_take (i := 6) rfl (by kernel_rfl) (by kernel_rfl) (by kernel_rfl) (fun _ _ _ h => h) (Or.inl ⟨by rfl, by intro W hSW; (try dsimp only at hSW); go_simp; try (with_reducible rfl)⟩) hHeld ?_
        try simp only [Act.put, List.getElem_toArray, List.getElem_cons_zero, List.getElem_cons_succ, List.setIfInBounds_toArray, List.set_cons_zero, List.set_cons_succ]
        refine wpAnyH_take (i := 7) rfl (by kernel_rfl) (by kernel_rfl) (by kernel_rfl) (fun _ _ _ h => h) (Or.inl ⟨by rfl, by intro W hSW; (try dsimp only at hSW); go_simp; try (with_reducible rfl)⟩) hHeld ?_
        try simp only [Act.put, List.getElem_toArray, List.getElem_cons_zero, List.getElem_cons_succ, List.setIfInBounds_toArray, List.set_cons_zero, List.set_cons_succ]
        refine wpAnyH_take (i := 8) rfl (by kernel_rfl) (by kernel_rfl) (by kernel_rfl) (fun _ _ _ h => h) (Or.inl ⟨by rfl, by intro W hSW; (try dsimp only at hSW); go_simp; try (with_reducible rfl)⟩) hHeld ?_
        try simp only [Act.put, List.getElem_toArray, List.getElem_cons_zero, List.getElem_cons_succ, List.setIfInBounds_toArray, List.set_cons_zero, List.set_cons_succ]
        refine wpAnyH_ready (rs := [9]) (by kernel_rfl) (by simp) ?_
        refine AllReadyH.cons rfl (fun K hK => ?_) AllReadyH.nil
        go_simp
        refine hK.out _ _ (HSS.out _ (to_ B2.out (alloc_ _ _))) ?_
        clear hK K hHeld
        intro hHeld
        try simp only [Act.put, List.getElem_toArray, List.getElem_cons_zero, List.getElem_cons_succ, List.setIfInBounds_toArray, List.set_cons_zero, List.set_cons_succ]
        refine wpAnyH_ready (rs := [10]) (by kernel_rfl) (by simp) ?_
        refine AllReadyH.cons rfl (fun K hK => ?_) AllReadyH.nil
        go_simp
        obtain ⟨wf, hwf⟩ : ∃ wf, w2.alloc (.cells #[.slice A n c, .int .i64 (t.1 : Int), .bool (!t.2)] 42) = wf := ⟨_, rfl⟩
        rw [hwf]
        have HFW := Lib.hid (show Below wr.heap.size wr wf from by rw [← hwf]; exact to_ B2.out (alloc_ _ _))
        have HFB := Lib.hid (show Blk wf w2.heap.size 42 #[.slice A n c, .int .i64 (t.1 : Int), .bool (!t.2)] from by rw [← hwf]; exact Blk.new w2 _ _)
        clear hwf x0 x1 x2 f0 f1 f2 hwk
        refine hK.out _ _ (HSS.out _ HFW.out) ?_
        clear hK K hHeld
        intro hHeld
        try simp only [Act.put, List.getElem_toArray, List.getElem_cons_zero, List.getElem_cons_succ, List.setIfInBounds_toArray, List.set_cons_zero, List.set_cons_succ]
        refine wpAnyH_take (i := 11) rfl (by kernel_rfl) (by kernel_rfl) (by kernel_rfl) (fun _ _ _ h => h) (Or.inl ⟨by rfl, by intro W hSW; (try dsimp only at hSW); go_simp; try (with_reducible rfl)⟩) hHeld ?_
        try simp only [Act.put, List.getElem_toArray, List.getElem_cons_zero, List.getElem_cons_succ, List.setIfInBounds_toArray, List.set_cons_zero, List.set_cons_succ]
        refine wpAnyH_done (by kernel_rfl) ?_ _
        refine NoPanic.normal ?_
        obtain ⟨y0, y1, y2⟩ := blk_ce3 HFB.out
        have HXF := Lib.hid (HXB2.out.below HFW.out HXB.out.lt)
        obtain ⟨x0, x1, x2⟩ := blk_ce3 HXF.out
        obtain ⟨f0, f1, f2⟩ := blk_fr3 HXF.out
        have hk9 : k ≤ 1000 := by omega
        clear hk
        obtain ⟨wg, hwg⟩ : ∃ wg, ((wf.setCell ⟨w.heap.size, 0, none⟩ (.slice A n c)).setCell ⟨w.heap.size, 1, none⟩ (.int .i64 (t.1 : Int))).setCell ⟨w.heap.size, 2, none⟩ (.bool (!t.2)) = wg := ⟨_, rfl⟩
        have HOG := Lib.hid (show wg.ownsRow (w.heap.size + 2) 2 1 _ k (ints (vlN l s k)) from by rw [← hwg]; exact ownk_keep HOW.out fun gg hb hlt => (heap_put3 wf w.heap.size gg (by omega) _ _ _).trans (HFW.out.block gg hlt))
        have HOGS := Lib.hid (show w.heap.size + 2 ≤ wg.heap.size from by rw [← hwg]; have := HSZ.out; have := HFW.out.size; simp; omega)
        have HBG := Lib.hid (show Below w.heap.size w wg from by rw [← hwg]; exact below_put3 (to_ HBE.out HFW.out) _ (Nat.le_refl _) _ _ _)
        have HXG := Lib.hid (show Blk wg w.heap.size 42 #[.slice A n c, .int .i64 (t.1 : Int), .bool (!t.2)] from by rw [← hwg]; exact blk_put3 HXF.out _ _ _)
        have HRG := Lib.hid (show Blk wg (w.heap.size + 1) 42 #[.slice none 0 0, .int .i64 0, .bool false] from by rw [← hwg]; exact blk_away3 (HRB.out.below HFW.out HRB.out.lt) _ (by omega) _ _ _)
        go_wp2_with (at_builtin; go_loud (refine wpList_append_own _ rfl _ _ 135 rfl (w.heap.size + 2) 2 i0 (.int .i64 0) 1 8 Tryz.underlying135 hi hz0 hz1 hz2 rfl (by decide) _ _ _ rfl (ownk_keep HOG.out fun gg hb hlt => Below.heap_alloc _ _ _ hlt) ⟨wg.heap.size, 0, none⟩ 1 1 [.int .i64 z] rfl rfl (fun j u hu => by rw [add_plain, Nat.zero_add]; exact ((Blk.new wg 2 #[.int .i64 z]).cell j).trans (by simpa using hu)) (by simp [Value.oneCell']) (by unfold maxLen; omega) (by omega) (by have := HOGS.out; simp; omega) ?_; intro v' w4 h2 h3 h4; clear h4; have H2 := Lib.hid h2; have H3 := Lib.hid h3; clear h2 h3))
        clear hwg x0 x1 x2 f0 f1 f2 y0 y1 y2
        go_roundw
        case rel =>
          have hb4 : Below w.heap.size w w4 := (to_ HBG.out (alloc_ _ _)).grown H3.out (to_ HBG.out (alloc_ _ _)).size fun r e => by have := (HOG.out.lt r e).1; omega
          have hne : ∀ g, g < w.heap.size + 2 → w4.heap[g]? = wg.heap[g]? := fun g hg => (H3.out.block g (by have := HOGS.out; simp; omega) (fun e => by have := (HOG.out.lt g e.symm).1; omega)).trans (Below.heap_alloc _ _ _ (by have := HOGS.out; omega))
          refine ⟨k + 1, by omega, by go_num, ?_, (hne _ (by omega)).trans HRG.out, ?_, hb4, Lib.hid (by have := HOGS.out; have := H3.out.size; simp at this; omega)⟩
          · rw [HT.out]; exact (hne _ (by omega)).trans HXG.out
          · rw [HVN.out, ← ints_app1]; exact H2.out
        case measure => simp [intOf]; omega
      · go_simp
        refine hK.out _ _ (HSS.out _ (alloc_ _ _).drew) ?_
        clear hK K hHeld
        intro hHeld
        try simp only [Act.put, List.getElem_toArray, List.getElem_cons_zero, List.getElem_cons_succ, List.setIfInBounds_toArray, List.set_cons_zero, List.set_cons_succ]
        refine wpAnyH_ready (rs := [5]) (by kernel_rfl) (by simp) ?_
        refine AllReadyH.cons rfl (fun K hK => ?_) AllReadyH.nil
        go_simp
        refine (HNK.out _ (to_ HBE.out (alloc_ _ _)).drew).mono ?_
        rintro e w2 ⟨rfl, b2⟩
        have hb2 : Below (wr.heap.size + 1) (wr.alloc (.cells #[.slice none 0 0, .int .i64 0, .bool false] 42)) w2 := by have this : Below (wr.alloc (.cells #[.slice none 0 0, .int .i64 0, .bool false] 42)).heap.size (wr.alloc (.cells #[.slice none 0 0, .int .i64 0, .bool false] 42)) w2 := (Below.refl _ (wr.alloc (.cells #[.slice none 0 0, .int .i64 0, .bool false] 42))).drew.trans b2; rwa [World.size_alloc] at this
        have hzb : Blk w2 wr.heap.size 42 #[.slice none 0 0, .int .i64 0, .bool false] := (Blk.new wr 42 #[.slice none 0 0, .int .i64 0, .bool false]).below hb2 (by omega)
        have B2 := Lib.hid (show Below wr.heap.size wr w2 from (alloc_ _ _).trans (hb2.mono (by omega)))
        have HZB := Lib.hid hzb
        clear b2 hb2 hzb
        try go_wp2_with fail
        refine hK.out _ _ (HSS.out _ B2.out) ?_
        clear hK K hHeld
        intro hHeld
        try simp only [Act.put, List.getElem_toArray, List.getElem_cons_zero, List.getElem_cons_succ, List.setIfInBounds_toArray, List.set_cons_zero, List.set_cons_succ]
        refine wpAnyH_take (i := 6) rfl (by kernel_rfl) (by kernel_rfl) (by kernel_rfl) (fun _ _ _ h => h) (Or.inl ⟨by rfl, by intro W hSW; (try dsimp only at hSW); go_simp; try (with_reducible rfl)⟩) hHeld ?_
        try simp only [Act.put, List.getElem_toArray, List.getElem_cons_zero, List.getElem_cons_succ, List.setIfInBounds_toArray, List.set_cons_zero, List.set_cons_succ]
        refine wpAnyH_take (i := 7) rfl (by kernel_rfl) (by kernel_rfl) (by kernel_rfl) (fun _ _ _ h => h) (Or.inl ⟨by rfl, by intro W hSW; (try dsimp only at hSW); go_simp; try (with_reducible rfl)⟩) hHeld ?_
        try simp only [Act.put, List.getElem_toArray, List.getElem_cons_zero, List.getElem_cons_succ, List.setIfInBounds_toArray, List.set_cons_zero, List.set_cons_succ]
        refine wpAnyH_take (i := 8) rfl (by kernel_rfl) (by kernel_rfl) (by kernel_rfl) (fun _ _ _ h => h) (Or.inl ⟨by rfl, by intro W hSW; (try dsimp only at hSW); go_simp; try (with_reducible rfl)⟩) hHeld ?_
        try simp only [Act.put, List.getElem_toArray, List.getElem_cons_zero, List.getElem_cons_succ, List.setIfInBounds_toArray, List.set_cons_zero, List.set_cons_succ]
        clear x0 x1 x2 f0 f1 f2 hwk
        obtain ⟨x0, x1, x2⟩ := blk_ce3 HZB.out
        obtain ⟨f0, f1, f2⟩ := blk_fr3 HZB.out
        refine wpAnyH_ready (rs := [10]) (by kernel_rfl) (by simp) ?_
        refine AllReadyH.cons rfl (fun K hK => ?_) AllReadyH.nil
        go_simp
        obtain ⟨wf, hwf⟩ : ∃ wf, (((w2).setCell ⟨wr.heap.size, 0, none⟩ (.slice A n c)).setCell ⟨wr.heap.size, 1, none⟩ (.int .i64 (t.1 : Int))).setCell ⟨wr.heap.size, 2, none⟩ (.bool (!t.2)) = wf := ⟨_, rfl⟩
        rw [hwf]
        have HFW := Lib.hid (show Below wr.heap.size wr wf from by rw [← hwf]; exact below_put3 B2.out _ (Nat.le_refl _) _ _ _)
        have HFB := Lib.hid (show Blk wf wr.heap.size 42 #[.slice A n c, .int .i64 (t.1 : Int), .bool (!t.2)] from by rw [← hwf]; exact blk_put3 HZB.out _ _ _)
        clear hwf x0 x1 x2 f0 f1 f2
        refine hK.out _ _ (HSS.out _ HFW.out) ?_
        clear hK K hHeld
        intro hHeld
        try simp only [Act.put, List.getElem_toArray, List.getElem_cons_zero, List.getElem_cons_succ, List.setIfInBounds_toArray, List.set_cons_zero, List.set_cons_succ]
        refine wpAnyH_take (i := 11) rfl (by kernel_rfl) (by kernel_rfl) (by kernel_rfl) (fun _ _ _ h => h) (Or.inl ⟨by rfl, by intro W hSW; (try dsimp only at hSW); go_simp; try (with_reducible rfl)⟩) hHeld ?_
        try simp only [Act.put, List.getElem_toArray, List.getElem_cons_zero, List.getElem_cons_succ, List.setIfInBounds_toArray, List.set_cons_zero, List.set_cons_succ]
        refine wpAnyH_done (by kernel_rfl) ?_ _
        refine NoPanic.normal ?_
        obtain ⟨y0, y1, y2⟩ := blk_ce3 HFB.out
        have HXF := Lib.hid (HXB2.out.below HFW.out HXB.out.lt)
        obtain ⟨x0, x1, x2⟩ := blk_ce3 HXF.out
        obtain ⟨f0, f1, f2⟩ := blk_fr3 HXF.out
        have hk9 : k ≤ 1000 := by omega
        clear hk
        obtain ⟨wg, hwg⟩ : ∃ wg, ((wf.setCell ⟨w.heap.size, 0, none⟩ (.slice A n c)).setCell ⟨w.heap.size, 1, none⟩ (.int .i64 (t.1 : Int))).setCell ⟨w.heap.size, 2, none⟩ (.bool (!t.2)) = wg := ⟨_, rfl⟩
        have HOG := Lib.hid (show wg.ownsRow (w.heap.size + 2) 2 1 _ k (ints (vlN l s k)) from by rw [← hwg]; exact ownk_keep HOW.out fun gg hb hlt => (heap_put3 wf w.heap.size gg (by omega) _ _ _).trans (HFW.out.block gg hlt))
        have HOGS := Lib.hid (show w.heap.size + 2 ≤ wg.heap.size from by rw [← hwg]; have := HSZ.out; have := HFW.out.size; simp; omega)
        have HBG := Lib.hid (show Below w.heap.size w wg from by rw [← hwg]; exact below_put3 (to_ HBE.out HFW.out) _ (Nat.le_refl _) _ _ _)
        have HXG := Lib.hid (show Blk wg w.heap.size 42 #[.slice A n c, .int .i64 (t.1 : Int), .bool (!t.2)] from by rw [← hwg]; exact blk_put3 HXF.out _ _ _)
        have HRG := Lib.hid (show Blk wg (w.heap.size + 1) 42 #[.slice none 0 0, .int .i64 0, .bool false] from by rw [← hwg]; exact blk_away3 (HRB.out.below HFW.out HRB.out.lt) _ (by omega) _ _ _)
        go_wp2_with (at_builtin; go_loud (refine wpList_append_own _ rfl _ _ 135 rfl (w.heap.size + 2) 2 i0 (.int .i64 0) 1 8 Tryz.underlying135 hi hz0 hz1 hz2 rfl (by decide) _ _ _ rfl (ownk_keep HOG.out fun gg hb hlt => Below.heap_alloc _ _ _ hlt) ⟨wg.heap.size, 0, none⟩ 1 1 [.int .i64 z] rfl rfl (fun j u hu => by rw [add_plain, Nat.zero_add]; exact ((Blk.new wg 2 #[.int .i64 z]).cell j).trans (by simpa using hu)) (by simp [Value.oneCell']) (by unfold maxLen; omega) (by omega) (by have := HOGS.out; simp; omega) ?_; intro v' w4 h2 h3 h4; clear h4; have H2 := Lib.hid h2; have H3 := Lib.hid h3; clear h2 h3))
        clear hwg x0 x1 x2 f0 f1 f2 y0 y1 y2
        go_roundw
        case rel =>
          have hb4 : Below w.heap.size w w4 := (to_ HBG.out (alloc_ _ _)).grown H3.out (to_ HBG.out (alloc_ _ _)).size fun r e => by have := (HOG.out.lt r e).1; omega
          have hne : ∀ g, g < w.heap.size + 2 → w4.heap[g]? = wg.heap[g]? := fun g hg => (H3.out.block g (by have := HOGS.out; simp; omega) (fun e => by have := (HOG.out.lt g e.symm).1; omega)).trans (Below.heap_alloc _ _ _ (by have := HOGS.out; omega))
          refine ⟨k + 1, by omega, by go_num, ?_, (hne _ (by omega)).trans HRG.out, ?_, hb4, Lib.hid (by have := HOGS.out; have := H3.out.size; simp at this; omega)⟩
          · rw [HT.out]; exact (hne _ (by omega)).trans HXG.out
          · rw [HVN.out, ← ints_app1]; exact H2.out
        case measure => simp [intOf]; omega
    · obtain rfl : k = M := by omega
      have HXB2 := Lib.hid (show Blk wr w.heap.size 42 #[.slice A n c, .int .i64 ((stN l s k).1 : Int), .bool (!(stN l s k).2)] from hxb)
      obtain ⟨x0, x1, x2⟩ := blk_ce3 HXB2.out
      obtain ⟨y0, y1, y2⟩ := blk_ce3 HRB.out
      obtain ⟨f0, f1, f2⟩ := blk_fr3 HRB.out
      obtain ⟨A2, c2, rfl⟩ := own_formW hown
      obtain ⟨t, ht⟩ : ∃ t, stN l s k = t := ⟨_, rfl⟩
      have HS5 := Lib.hid ht
      rw [ht] at x1 x2
      clear hxb hrb hown hbel ht HXB2
      go_wp2_with fail
      refine bodyPost_ret (v := .tuple #[.agg #[.slice A n c, .int .i64 (t.1 : Int), .bool (!t.2)], .slice A2 k c2]) (by simp [results, Tryz.results163, go_sem, y0, y1, y2]) rfl ?_
      have hown2 : ((((wr.setCell ⟨w.heap.size + 1, 0, none⟩ (.slice A n c)).setCell ⟨w.heap.size + 1, 1, none⟩ (.int .i64 (t.1 : Int))).setCell ⟨w.heap.size + 1, 2, none⟩ (.bool (!t.2)))).ownsRow (w.heap.size + 2) 2 1 (.slice A2 k c2) k (ints (vlN l s k)) := ownk_keep HOW.out fun gg hb hlt => heap_put3 wr (w.heap.size + 1) gg (by omega) _ _ _
      refine ⟨A2, c2, by rw [HS5.out]; rfl, SlV.of_own hown2, below_put3 HBE.out _ (by omega) _ _ _, fun ad e => by subst e; have := (HOW.out.lt ad.block rfl).1; omega⟩
end Go.Proofs.YtbknmapkdjmcjaaGreatDoor.By

namespace Go.Proofs.YtbknmapkdjmcjaaGreatDoor.By
open Go.RowKit
open Mem Gm Rf
set_option linter.unusedSimpArgs false
set_option linter.unusedVariables false

/-- The next reference: how the reader stands behind it; what it is; whether it may be. -/
def t3 (l : List UInt8) (s : Std) : Std := stN l s 3
def tkW (l : List UInt8) (s : Std) : Int := rvS l (stN l s 2) 1
def tkX (l : List UInt8) (s : Std) : Rl := (rvS l s 1, rvS l (stN l s 1) 1, tkW l s == 1)
def tkR (l : List UInt8) (s : Std) : Rl := if 1 < tkW l s then (0, 0, false) else tkX l s

/-- The next n references, and how the reader stands; and the words ahead. -/
def rfs (l : List UInt8) : Nat → Std → Option (List Rl) × Std
  | 0, s => (some [], s)
  | n + 1, s => if 1 < tkW l s then (none, t3 l s) else ((rfs l n (t3 l s)).1.map (tkX l s :: ·), (rfs l n (t3 l s)).2)
def wst (l : List UInt8) : Nat → Std → Std
  | 0, s => s
  | n + 1, s => wst l n (pgS l s 8)
def wds (l : List UInt8) : Nat → Std → List Int
  | 0, _ => []
  | n + 1, s => rvS l s 8 :: wds l n (pgS l s 8)
theorem wds_len (l : List UInt8) : ∀ n s, (wds l n s).length = n
  | 0, _ => rfl
  | n + 1, s => by rw [wds, List.length_cons, wds_len]
theorem num_one (l : List UInt8) (s : Std) : 0 ≤ rvS l s 1 ∧ rvS l s 1 ≤ 255 := by
  unfold rvS readV
  split
  · have hl : ((l.drop s.1).take (1 : Int).toNat).length ≤ 1 := by rw [List.length_take]; exact Nat.min_le_left _ _
    cases hq : (l.drop s.1).take (1 : Int).toNat with
    | nil => exact ⟨Int.le_refl _, by show (0 : Int) ≤ 255; omega⟩
    | cons x r =>
      rw [hq] at hl
      rw [numV_plain]
      have h1 := natV_lt (x :: r)
      have h2 : (x :: r).length = 1 := by rw [List.length_cons] at hl ⊢; omega
      rw [h2] at h1
      rw [wrap_in _ ⟨by omega, by omega⟩]
      omega
  · omega
/-- With a sign, of eight bytes, is without. -/
theorem rv_eight (l : List UInt8) (s : Std) : readV true l s.1 s.2 8 = rvS l s 8 := by
  unfold rvS readV
  split
  · rename_i hf
    unfold fitsB at hf
    rw [Bool.and_eq_true, decide_eq_true_eq] at hf
    have hl : ((l.drop s.1).take (8 : Int).toNat).length = 8 := by
      rw [List.length_take, List.length_drop]
      have := hf.2.2.2
      show min 8 _ = 8
      omega
    cases hq : (l.drop s.1).take (8 : Int).toNat with
    | nil => rw [hq] at hl; simp at hl
    | cons x r =>
      rw [hq] at hl
      rw [numV_plain, numV_sign]
      have h7 : r.length + 1 = 8 := by rw [List.length_cons] at hl; exact hl
      rw [h7]
      by_cases hx : 128 ≤ x.toNat
      · rw [if_pos hx]
        exact wrap_again _ _ (-1) (by omega)
      · rw [if_neg hx]; rfl
  · rfl

def SgS (w : World) (g : Nat) (A : Option Addr) (c : Nat) (l : List UInt8) (s : Std) (e : Ending) (w' : World) : Prop :=
  e = .returned (.int .i64 (rvS l s 8)) ∧ RdS w' g A c l (pgS l s 8) ∧ w.grownBy w' (some g)
theorem signed_s (w : World) (g : Nat) (A : Option Addr) (c : Nat) (l : List UInt8) (s : Std) (h : RdS w g A c l s) : Calls Tryz.prog 269 #[.pointer (some ⟨g, 0, none⟩), .int .i64 8] w (SgS w g A c l s) := by
  have := signed_any w g A c l s.1 s.2 h 8
  refine this.mono fun e w' hh => ?_
  obtain ⟨h1, h2, h3⟩ := hh
  exact ⟨by rw [h1, rv_eight], h2, h3⟩

def TkAns (l : List UInt8) (s : Std) (w : World) (g : Nat) (A : Option Addr) (c : Nat) (e : Ending) (w' : World) : Prop :=
  e = .returned (.tuple #[.agg #[.int .i64 (tkR l s).1, .int .i64 (tkR l s).2.1, .bool (tkR l s).2.2], .bool (decide (tkW l s ≤ 1))]) ∧ RdS w' g A c l (t3 l s) ∧ w.grownBy w' (some g)
theorem rd_put3 {w : World} {g : Nat} {A : Option Addr} {c : Nat} {l : List UInt8} {s : Std} (h : RdS w g A c l s) (r : Nat) (hr : g < r) (a b d : Value) : RdS (((w.setCell ⟨r, 0, none⟩ a).setCell ⟨r, 1, none⟩ b).setCell ⟨r, 2, none⟩ d) g A c l s :=
  rd_other (rd_other (rd_other h _ _ hr) _ _ hr) _ _ hr
theorem only_put3 {a b : World} {g : Nat} (h : a.grownBy b (some g)) (r : Nat) (hr : a.heap.size ≤ r) (x y z : Value) : a.grownBy (((b.setCell ⟨r, 0, none⟩ x).setCell ⟨r, 1, none⟩ y).setCell ⟨r, 2, none⟩ z) (some g) :=
  only_high (only_high (only_high h _ _ hr) _ _ hr) _ _ hr

set_option maxRecDepth 100000 in
set_option maxHeartbeats 4000000 in
theorem take_any (w : World) (g : Nat) (A : Option Addr) (c : Nat) (l : List UInt8) (s : Std) (h : RdS w g A c l s) :
    Calls Tryz.prog 270 #[.pointer (some ⟨g, 0, none⟩)] w (TkAns l s w g A c) := by
  have hg : g < w.heap.size := h.blk.lt
  obtain ⟨W, hW⟩ : ∃ W, w.alloc (.cells #[.int .i64 0, .int .i64 0, .bool false] 82) = W := ⟨_, rfl⟩
  have hB : Below w.heap.size w W := by rw [← hW]; exact alloc_ _ _
  have hb0 : Blk W w.heap.size 82 #[.int .i64 0, .int .i64 0, .bool false] := by rw [← hW]; exact Blk.new w _ _
  have HW0 := Lib.hid (show RdS W g A c l (stN l s 0) ∧ Blk W w.heap.size 82 #[.int .i64 0, .int .i64 0, .bool false] ∧ w.grownBy W (some g) from ⟨Rdr.below h hB hg, hb0, only_of_below g hB⟩)
  have HN := Lib.hid (fun W k (h : RdS W g A c l (stN l s k)) => num_s W g A c l (stN l s k) h 1)
  have HG := Lib.hid hg
  obtain ⟨z, hz⟩ : ∃ z, rvS l (stN l s 2) 1 = z := ⟨_, rfl⟩
  have HZ := Lib.hid (show tkW l s = z from hz)
  have HX := Lib.hid (show tkX l s = (rvS l (stN l s 0) 1, rvS l (stN l s 1) 1, z == 1) from by unfold tkX tkW; rw [hz]; rfl)
  have HN2 := Lib.hid (show ∀ W, RdS W g A c l (stN l s 2) → Calls Tryz.prog 190 #[.pointer (some ⟨g, 0, none⟩), .int .i64 1] W fun e w' => e = .returned (.int .i64 z) ∧ RdS w' g A c l (stN l s 3) ∧ W.grownBy w' (some g) from fun W hh => (HN.out W 2 hh).mono fun e w' h9 => by unfold NumS at h9; rw [hz] at h9; exact h9)
  clear h hB hb0 hg hz
  by_cases h1 : 1 < z
  · have HE := Lib.hid (show decide (tkW l s ≤ 1) = false from by rw [HZ.out]; simp; omega)
    have HR := Lib.hid (show tkR l s = (0, 0, false) from by unfold tkR; rw [HZ.out, if_pos h1])
    go_enter Tryz.func270, Tryz.ntmps270
    go_wp2_with fail
    clear hW
    refine (HN.out _ 0 HW0.out.1).mono ?_
    rintro e w1 ⟨rfl, hr1, hg1⟩
    have HR1 := Lib.hid hr1
    have HGR1 := Lib.hid (only_to HW0.out.2.2 hg1)
    have HB1 := Lib.hid (blk_only HW0.out.2.1 hg1 (by have := HG.out; omega))
    clear hr1 hg1
    go_wp2_with fail
    refine (HN.out _ 1 HR1.out).mono ?_
    rintro e w2 ⟨rfl, hr2, hg2⟩
    have HR2 := Lib.hid hr2
    have HGR2 := Lib.hid (only_to HGR1.out hg2)
    have HB2 := Lib.hid (blk_only HB1.out hg2 (by have := HG.out; omega))
    clear hr2 hg2
    go_wp2_with fail
    refine (HN2.out _ HR2.out).mono ?_
    rintro e w3 ⟨rfl, hr3, hg3⟩
    have HR3 := Lib.hid hr3
    have HGR3 := Lib.hid (only_to HGR2.out hg3)
    have HB3 := Lib.hid (blk_only HB2.out hg3 (by have := HG.out; omega))
    clear hr3 hg3
    obtain ⟨r0, r1, r2⟩ := blk_ce3 HB3.out
    obtain ⟨q0, q1, q2⟩ := blk_fr3 HB3.out
    go_wp2_with fail
    refine bodyPost_ret (v := .tuple #[.agg #[.int .i64 0, .int .i64 0, .bool false], .bool false]) (by simp [results, Tryz.results270, go_sem, r0, r1, r2]) rfl ⟨by rw [HE.out, HR.out], rd_put3 HR3.out _ (by have := HG.out; omega) _ _ _, only_put3 HGR3.out _ (Nat.le_refl _) _ _ _⟩
  · have HE := Lib.hid (show decide (tkW l s ≤ 1) = true from by rw [HZ.out]; simp; omega)
    have HR := Lib.hid (show tkR l s = (rvS l (stN l s 0) 1, rvS l (stN l s 1) 1, z == 1) from by unfold tkR; rw [HZ.out, if_neg h1, HX.out])
    obtain ⟨be, hbe⟩ : ∃ be, (z == 1) = be := ⟨_, rfl⟩
    rw [hbe] at HR
    go_enter Tryz.func270, Tryz.ntmps270
    go_wp2_with fail
    clear hW
    refine (HN.out _ 0 HW0.out.1).mono ?_
    rintro e w1 ⟨rfl, hr1, hg1⟩
    have HR1 := Lib.hid hr1
    have HGR1 := Lib.hid (only_to HW0.out.2.2 hg1)
    have HB1 := Lib.hid (blk_only HW0.out.2.1 hg1 (by have := HG.out; omega))
    clear hr1 hg1
    go_wp2_with fail
    refine (HN.out _ 1 HR1.out).mono ?_
    rintro e w2 ⟨rfl, hr2, hg2⟩
    have HR2 := Lib.hid hr2
    have HGR2 := Lib.hid (only_to HGR1.out hg2)
    have HB2 := Lib.hid (blk_only HB1.out hg2 (by have := HG.out; omega))
    clear hr2 hg2
    go_wp2_with fail
    refine (HN2.out _ HR2.out).mono ?_
    rintro e w3 ⟨rfl, hr3, hg3⟩
    have HR3 := Lib.hid hr3
    have HGR3 := Lib.hid (only_to HGR2.out hg3)
    have HB3 := Lib.hid (blk_only HB2.out hg3 (by have := HG.out; omega))
    clear hr3 hg3
    obtain ⟨r0, r1, r2⟩ := blk_ce3 HB3.out
    obtain ⟨q0, q1, q2⟩ := blk_fr3 HB3.out
    go_wp2_with fail
    refine bodyPost_ret (v := .tuple #[.agg #[.int .i64 _, .int .i64 _, .bool be], .bool true]) (by simp [results, Tryz.results270, go_sem, r0, r1, r2]; (try exact ⟨rfl, rfl⟩)) rfl ⟨by rw [HE.out, HR.out], rd_put3 HR3.out _ (by have := HG.out; omega) _ _ _, only_put3 HGR3.out _ (Nat.le_refl _) _ _ _⟩
end Go.Proofs.YtbknmapkdjmcjaaGreatDoor.By

namespace Go.Proofs.YtbknmapkdjmcjaaGreatDoor.By
open Go.RowKit
open Mem Gm Rf
set_option linter.unusedSimpArgs false
set_option linter.unusedVariables false

/-- The next data: its kind, its words, its references, what is wrong, how the reader stands. -/
def gN1 (l : List UInt8) (s : Std) : Nat := (rvS l (pgS l s 1) 1).toNat
def gS2 (l : List UInt8) (s : Std) : Std := pgS l (pgS l s 1) 1
def gS3 (l : List UInt8) (s : Std) : Std := wst l (gN1 l s) (gS2 l s)
def gN2 (l : List UInt8) (s : Std) : Nat := (rvS l (gS3 l s) 1).toNat
def gR (l : List UInt8) (s : Std) : Option (List Rl) × Std := rfs l (gN2 l s) (pgS l (gS3 l s) 1)
theorem own_keep1 {w w' : World} {base n k : Nat} {E : TypeId} {v : Value} {xs : List Value} (h : w.ownsRow base E k v n xs) (hk : ∀ g, base ≤ g → g < w.heap.size → v.ownBlock = some g → w'.heap[g]? = w.heap[g]?) : w'.ownsRow base E k v n xs := by
  obtain ⟨h1, h2⟩ := h
  refine ⟨h1, ?_⟩
  rcases h2 with h2 | ⟨g, cap, cur, hv, hb, hg, r⟩
  · exact .inl h2
  · exact .inr ⟨g, cap, cur, hv, hb, (hk g hb (Array.getElem?_eq_some_iff.1 hg).1 (by rw [hv]; rfl)).trans hg, r⟩
structure Gd where
  kd : Int
  ws : List Int
  rs : List Rl
  er : Int
def gdV (l : List UInt8) (s : Std) : Gd :=
  match (gR l s).1 with
  | none => ⟨0, [], [], 3⟩
  | some rs => if (gR l s).2.2 = false then ⟨0, [], [], 5⟩ else ⟨rvS l s 1, wds l (gN1 l s) (gS2 l s), rs, 0⟩

theorem wds_next (l : List UInt8) : ∀ k s, wds l (k + 1) s = wds l k s ++ [rvS l (wst l k s) 8]
  | 0, s => rfl
  | k + 1, s => by rw [wds, wds_next l k (pgS l s 8)]; rfl
theorem wst_next (l : List UInt8) : ∀ k s, wst l (k + 1) s = pgS l (wst l k s) 8
  | 0, s => rfl
  | k + 1, s => by rw [wst, wst_next l k (pgS l s 8)]; rfl

theorem infoRl : (Tryz.prog.info? 82).map (fun i => (i.zero, i.size, i.bytes)) = some (some (.agg #[.int .i64 0, .int .i64 0, .bool false]), 3, 24) := by kernel_rfl
def flRl (l : List Rl) : List Value := l.flatMap encRl
theorem flRl_snoc (l : List Rl) (x : Rl) : flRl l ++ encRl x = flRl (l ++ [x]) := by simp [flRl]

theorem flat_at {α : Type} {k : Nat} {enc : α → List Value} (hk : ∀ x, (enc x).length = k) : ∀ (l : List α) (i : Nat) (x : α) (j : Nat) (u : Value), l[i]? = some x → (enc x)[j]? = some u → (l.flatMap enc)[i * k + j]? = some u
  | [], i, x, j, u, h, _ => by simp at h
  | y :: l, 0, x, j, u, h, hu => by
    have : y = x := by simpa using h
    subst this
    have hj := (List.getElem?_eq_some_iff.1 hu).1
    rw [List.flatMap_cons, Nat.zero_mul, Nat.zero_add, List.getElem?_append_left hj]; exact hu
  | y :: l, i + 1, x, j, u, h, hu => by
    have := flat_at hk l i x j u (by simpa using h) hu
    rw [List.flatMap_cons, List.getElem?_append_right (by rw [hk, Nat.add_mul]; omega), hk, show (i + 1) * k + j - k = i * k + j by rw [Nat.add_mul]; omega]
    exact this

theorem flat_len {α : Type} {k : Nat} {enc : α → List Value} (hk : ∀ x, (enc x).length = k) (l : List α) : (l.flatMap enc).length = l.length * k := by
  induction l with
  | nil => simp
  | cons y l ih => rw [List.flatMap_cons, List.length_append, ih, hk, List.length_cons, Nat.add_mul]; omega

theorem wd_own {α : Type} {k : Nat} {enc : α → List Value} {w : World} {base n : Nat} {e : TypeId} {v : Value} {l : List α} (hk : ∀ x, (enc x).length = k) (hl : l.length = n) (h : w.ownsRow base e k v n (l.flatMap enc)) : ∃ A c, v = .slice A n c ∧ Wd k enc w w.heap.size A n c l := by
  have h2 := h.2
  rcases h2 with ⟨rfl, rfl⟩ | ⟨g, cap, cur, rfl, hb, hg, hc, hm, hs, ht⟩
  · have : l = [] := List.eq_nil_of_length_eq_zero hl
    subst this
    exact ⟨none, 0, rfl, Wd.nil⟩
  · refine ⟨_, cap, rfl, hl, hc, hm, fun e => by simp at e, fun i x hi => ⟨_, rfl, (Array.getElem?_eq_some_iff.1 hg).1, fun j u hu => ?_⟩⟩
    rw [add_twice]
    exact h.cells (g := g) rfl _ _ (flat_at hk l i x j u hi hu)
theorem encRl_len (x : Rl) : (encRl x).length = 3 := rfl
theorem RlL.own {w : World} {base n : Nat} {v : Value} {l : List Rl} (hl : l.length = n) (h : w.ownsRow base 82 3 v n (flRl l)) : ∃ A c, v = .slice A n c ∧ RlL w A n c l := wd_own encRl_len hl h

def GtAns (d : Gd) (s : Std) (w : World) (g : Nat) (A : Option Addr) (c : Nat) (l : List UInt8) (e : Ending) (w' : World) : Prop :=
  ∃ AW cW AR cR, e = .returned (.tuple #[.agg #[.int .i64 d.kd, .slice AW d.ws.length cW, .slice AR d.rs.length cR], .int .i64 d.er]) ∧ IW w' (.slice AW d.ws.length cW) d.ws ∧ RlL w' AR d.rs.length cR d.rs ∧ RdS w' g A c l s ∧ w.grownBy w' (some g)

theorem rdS_below {w w' : World} {g B : Nat} {A : Option Addr} {c : Nat} {l : List UInt8} {s : Std} (h : RdS w g A c l s) (hb : Below B w w') (hg : g < B) : RdS w' g A c l s := Rdr.below h hb hg
/-- How things stand while data are got. -/
def GI (w : World) (g : Nat) (A : Option Addr) (c : Nat) (l : List UInt8) (D : Nat) (kd : Int) (st : Std) (v1 v2 : Value) (wr : World) : Prop :=
  (RdS wr g A c l st ∧ Blk wr w.heap.size 137 #[.int .i64 0, .slice none 0 0, .slice none 0 0] ∧ Blk wr D 137 #[.int .i64 kd, v1, v2]) ∧ w.grownBy wr (some g)
/-- What grows is behind D. -/
theorem GI.grow {w : World} {g : Nat} {A : Option Addr} {c : Nat} {l : List UInt8} {D : Nat} {kd : Int} {st : Std} {v1 v2 : Value} {wr w' : World} {row : Option Nat} (hD : w.heap.size < D) (hg : g < w.heap.size) (h : GI w g A c l D kd st v1 v2 wr) (k : wr.grownBy w' row) (hr : ∀ r, row = some r → D < r) : GI w g A c l D kd st v1 v2 w' := by
  obtain ⟨⟨h1, h2, h3⟩, h4⟩ := h
  have hb : Below (D + 1) wr w' := below_grown k (fun r e => hr r e) (by have := h3.lt; omega)
  exact ⟨⟨rdS_below h1 hb (by omega), h2.below hb (by omega), h3.below hb (by omega)⟩, only_grown h4 k fun r e => by have := hr r e; omega⟩
theorem GI.alloc {w : World} {g : Nat} {A : Option Addr} {c : Nat} {l : List UInt8} {D : Nat} {kd : Int} {st : Std} {v1 v2 : Value} {wr : World} (hD : w.heap.size < D) (hg : g < w.heap.size) (h : GI w g A c l D kd st v1 v2 wr) (o : Obj) : GI w g A c l D kd st v1 v2 (wr.alloc o) := by
  obtain ⟨⟨h1, h2, h3⟩, h4⟩ := h
  exact ⟨⟨rdS_below h1 (alloc_ wr o) (by have := h3.lt; omega), h2.alloc o, h3.alloc o⟩, only_alloc h4 o⟩
/-- A number was taken. -/
theorem GI.num {w : World} {g : Nat} {A : Option Addr} {c : Nat} {l : List UInt8} {D : Nat} {kd : Int} {st st' : Std} {v1 v2 : Value} {wr w' : World} (hD : w.heap.size < D) (hg : g < w.heap.size) (h : GI w g A c l D kd st v1 v2 wr) (hr : RdS w' g A c l st') (k : wr.grownBy w' (some g)) : GI w g A c l D kd st' v1 v2 w' :=
  ⟨⟨hr, blk_only h.1.2.1 k (by omega), blk_only h.1.2.2 k (by omega)⟩, only_to h.2 k⟩
/-- A field was set. -/
theorem GI.set1 {w : World} {g : Nat} {A : Option Addr} {c : Nat} {l : List UInt8} {D : Nat} {kd : Int} {st : Std} {v1 v2 : Value} {wr : World} (hD : w.heap.size < D) (hg : g < w.heap.size) (h : GI w g A c l D kd st v1 v2 wr) (v : Value) : GI w g A c l D kd st v v2 (wr.setCell ⟨D, 1, none⟩ v) :=
  ⟨⟨rd_other h.1.1 ⟨D, 1, none⟩ v (by show g < D; omega), blk_away h.1.2.1 ⟨D, 1, none⟩ v (by show w.heap.size ≠ D; omega), h.1.2.2.stored 1 v⟩, only_high h.2 ⟨D, 1, none⟩ v (by show w.heap.size ≤ D; omega)⟩
theorem GI.set2 {w : World} {g : Nat} {A : Option Addr} {c : Nat} {l : List UInt8} {D : Nat} {kd : Int} {st : Std} {v1 v2 : Value} {wr : World} (hD : w.heap.size < D) (hg : g < w.heap.size) (h : GI w g A c l D kd st v1 v2 wr) (v : Value) : GI w g A c l D kd st v1 v (wr.setCell ⟨D, 2, none⟩ v) :=
  ⟨⟨rd_other h.1.1 ⟨D, 2, none⟩ v (by show g < D; omega), blk_away h.1.2.1 ⟨D, 2, none⟩ v (by show w.heap.size ≠ D; omega), h.1.2.2.stored 2 v⟩, only_high h.2 ⟨D, 2, none⟩ v (by show w.heap.size ≤ D; omega)⟩

/-- The answer's cell was set. -/
theorem GI.putR {w : World} {g : Nat} {A : Option Addr} {c : Nat} {l : List UInt8} {D : Nat} {kd : Int} {st : Std} {v1 v2 : Value} {wr : World} (hg : g < w.heap.size) (h : GI w g A c l D kd st v1 v2 wr) (a b d : Value) :
    RdS (((wr.setCell ⟨w.heap.size, 0, none⟩ a).setCell ⟨w.heap.size, 1, none⟩ b).setCell ⟨w.heap.size, 2, none⟩ d) g A c l st ∧ Blk (((wr.setCell ⟨w.heap.size, 0, none⟩ a).setCell ⟨w.heap.size, 1, none⟩ b).setCell ⟨w.heap.size, 2, none⟩ d) w.heap.size 137 #[a, b, d] ∧ w.grownBy (((wr.setCell ⟨w.heap.size, 0, none⟩ a).setCell ⟨w.heap.size, 1, none⟩ b).setCell ⟨w.heap.size, 2, none⟩ d) (some g) :=
  ⟨rd_put3 h.1.1 _ hg _ _ _, blk_put3 h.1.2.1 _ _ _, only_put3 h.2 _ (Nat.le_refl _) _ _ _⟩

set_option maxRecDepth 100000 in
set_option maxHeartbeats 8000000 in
theorem getD_any (w : World) (g : Nat) (A : Option Addr) (c : Nat) (l : List UInt8) (s : Std) (h : RdS w g A c l s) :
    Calls Tryz.prog 201 #[.pointer (some ⟨g, 0, none⟩)] w (GtAns (gdV l s) (gR l s).2 w g A c l) := by
  obtain ⟨iR, hiR, hzR0, hzR1, hzR2⟩ := info_parts infoRl
  obtain ⟨iW, hiW, hzW0, hzW1, hzW2⟩ := info_parts info2
  have hg : g < w.heap.size := h.blk.lt
  have HG := Lib.hid hg
  obtain ⟨W0, hW0⟩ : ∃ W0, w.alloc (.cells #[.int .i64 0, .slice none 0 0, .slice none 0 0] 137) = W0 := ⟨_, rfl⟩
  have HZ0 := Lib.hid (show RdS W0 g A c l s ∧ Blk W0 w.heap.size 137 #[.int .i64 0, .slice none 0 0, .slice none 0 0] ∧ w.grownBy W0 (some g) from by
    rw [← hW0]; exact ⟨rdS_below h (alloc_ _ _) hg, Blk.new w _ _, only_alloc (only_refl w g) _⟩)
  have hsz0 : W0.heap.size = w.heap.size + 1 := by rw [← hW0]; simp
  have HS0 := Lib.hid hsz0
  have HN := Lib.hid (fun W s (h : RdS W g A c l s) => num_s W g A c l s h 1)
  have HSG := Lib.hid (fun W s (h : RdS W g A c l s) => signed_s W g A c l s h)
  have HTK := Lib.hid (fun W s (h : RdS W g A c l s) => take_any W g A c l s h)
  have HBD := Lib.hid (fun W s (h : RdS W g A c l s) => bad_s W g A c l s h)
  obtain ⟨kd, hkd⟩ : ∃ kd, rvS l s 1 = kd := ⟨_, rfl⟩
  have HKD := Lib.hid hkd
  obtain ⟨N1, hN1⟩ : ∃ N, gN1 l s = N := ⟨_, rfl⟩
  have hN1I : rvS l (pgS l s 1) 1 = (N1 : Int) := by have := num_one l (pgS l s 1); unfold gN1 at hN1; omega
  have hN1B : N1 ≤ 255 := by have := num_one l (pgS l s 1); omega
  obtain ⟨s2, hs2⟩ : ∃ x, gS2 l s = x := ⟨_, rfl⟩
  obtain ⟨s3, hs3⟩ : ∃ x, wst l N1 s2 = x := ⟨_, rfl⟩
  have hs3' : gS3 l s = s3 := by unfold gS3; rw [hN1, hs2, hs3]
  obtain ⟨N2, hN2⟩ : ∃ N, gN2 l s = N := ⟨_, rfl⟩
  have hN2I : rvS l s3 1 = (N2 : Int) := by have := num_one l s3; unfold gN2 at hN2; rw [hs3'] at hN2; omega
  have hN2B : N2 ≤ 255 := by have := num_one l s3; omega
  obtain ⟨s4, hs4⟩ : ∃ x, pgS l s3 1 = x := ⟨_, rfl⟩
  have hR : gR l s = rfs l N2 s4 := by unfold gR; rw [hN2, hs3', hs4]
  have HGD := Lib.hid (show gdV l s = (match (rfs l N2 s4).1 with | none => ⟨0, [], [], 3⟩ | some rs => if (rfs l N2 s4).2.2 = false then ⟨0, [], [], 5⟩ else ⟨kd, wds l N1 s2, rs, 0⟩) from by unfold gdV; rw [hR, hN1, hs2, hkd])
  have HGR := Lib.hid (show (gR l s).2 = (rfs l N2 s4).2 from by rw [hR])
  have HN1 := Lib.hid (show ∀ W, RdS W g A c l (pgS l s 1) → Calls Tryz.prog 190 #[.pointer (some ⟨g, 0, none⟩), .int .i64 1] W fun e w' => e = .returned (.int .i64 (N1 : Int)) ∧ RdS w' g A c l s2 ∧ W.grownBy w' (some g) from fun W hh => (num_s W g A c l _ hh 1).mono fun e w' h9 => by unfold NumS at h9; rw [hN1I] at h9; rw [← hs2]; exact h9)
  have HN2 := Lib.hid (show ∀ W, RdS W g A c l s3 → Calls Tryz.prog 190 #[.pointer (some ⟨g, 0, none⟩), .int .i64 1] W fun e w' => e = .returned (.int .i64 (N2 : Int)) ∧ RdS w' g A c l s4 ∧ W.grownBy w' (some g) from fun W hh => (num_s W g A c l _ hh 1).mono fun e w' h9 => by unfold NumS at h9; rw [hN2I] at h9; rw [← hs4]; exact h9)
  have HS3 := Lib.hid hs3
  clear h hg hkd hN1 hN1I hs2 hs3 hs3' hN2 hN2I hs4 hR hsz0
  go_enter Tryz.func201, Tryz.ntmps201
  go_wp2_with fail
  clear hW0
  refine (HN.out W0 s HZ0.out.1).mono ?_
  rintro e w1 ⟨rfl, hr1, hg1⟩
  rw [HKD.out]
  have HR1 := Lib.hid hr1
  have HG1 := Lib.hid hg1
  have HD := Lib.hid (show w.heap.size < w1.heap.size by have := HS0.out; have := hg1.size; omega)
  obtain ⟨D, hDD⟩ : ∃ D, w1.heap.size = D := ⟨_, rfl⟩
  have hbD : Blk (w1.alloc (.cells #[.int .i64 kd, .slice none 0 0, .slice none 0 0] 137)) D 137 #[.int .i64 kd, .slice none 0 0, .slice none 0 0] := by rw [← hDD]; exact Blk.new w1 _ _
  rw [hDD] at HD
  obtain ⟨W2, hW2⟩ : ∃ W2, w1.alloc (.cells #[.int .i64 kd, .slice none 0 0, .slice none 0 0] 137) = W2 := ⟨_, rfl⟩
  have HGI2 := Lib.hid (show GI w g A c l D kd (pgS l s 1) (.slice none 0 0) (.slice none 0 0) W2 from by
    rw [← hW2]
    exact ⟨⟨rdS_below hr1 (alloc_ _ _) (by have := HG.out; have := HD.out; omega), (blk_only HZ0.out.2.1 hg1 (by have := HG.out; omega)).alloc _, hbD⟩, only_alloc (only_to HZ0.out.2.2 hg1) _⟩)
  have HW2 := Lib.hid hW2
  have HDD := Lib.hid hDD
  clear hr1 hg1 hbD hW2 hDD
  go_wp2_with fail
  rw [HW2.out, HDD.out]
  clear HW2 HDD
  refine (HN1.out W2 HGI2.out.1.1).mono ?_
  rintro e w2 ⟨rfl, hr2, hg2⟩
  have HGI := Lib.hid (HGI2.out.num HD.out HG.out hr2 hg2)
  clear hr2 hg2 HGI2
  go_wp2_with fail
  go_loopw [12] (fun i wr => ∃ (k : Nat) (v : Value), k ≤ N1 ∧ i = .int .i64 (k : Int) ∧ GI w g A c l D kd (wst l k s2) v (.slice none 0 0) wr ∧ wr.ownsRow (D + 1) 2 1 v k (ints (wds l k s2))) (fun i _ => N1 - (intOf i).toNat)
  case atStart => exact ⟨0, _, Nat.zero_le _, rfl, HGI.out, World.ownsRow_nil _ _ _ _⟩
  case round =>
    obtain ⟨k, v, hk, rfl, hgi, hown⟩ := hrel
    have HGK := Lib.hid hgi
    have HOW := Lib.hid hown
    clear hgi hown
    by_cases hlt : k < N1
    · have hkI : (k : Int) < (N1 : Int) := by omega
      have HWN := Lib.hid (wds_next l k s2)
      have HSN := Lib.hid (wst_next l k s2)
      have HSK := Lib.hid (fun W (hh : RdS W g A c l (wst l k s2)) => HSG.out W _ hh)
      unfold SgS at HSK
      rw [← HSN.out] at HSK
      obtain ⟨x, hx⟩ : ∃ x, rvS l (wst l k s2) 8 = x := ⟨_, rfl⟩
      rw [hx] at HWN HSK
      clear hx
      have HDR := Lib.hid (show RdS wr.drew g A c l (wst l k s2) from rdS_below HGK.out.1.1 (drew_below wr) (by have := HGK.out.1.2.2.lt; have := HG.out; have := HD.out; omega))
      have HDG := Lib.hid (show wr.grownBy wr.drew (some g) from only_of_below g (drew_below wr))
      have cD : wr.cell? ⟨D, 1, none⟩ = some v := HGK.out.1.2.2.cell 1
      have cD2 : wr.drew.cell? ⟨D, 1, none⟩ = some v := cD
      go_wp2_with fail
      refine wp_region_noPanic ?_
      refine wp_region_held_drew (S := fun _ => True) (by kernel_rfl) (trivial) (fun hHeld => ?_)
      refine wpAnyH_take (i := 0) rfl (by kernel_rfl) (by kernel_rfl) (by kernel_rfl) (fun _ _ _ h => h) (Or.inl ⟨by rfl, by intro W hSW; (try dsimp only at hSW); go_simp; try (with_reducible rfl)⟩) hHeld ?_
      try simp only [Act.put, List.getElem_toArray, List.getElem_cons_zero, List.getElem_cons_succ, List.setIfInBounds_toArray, List.set_cons_zero, List.set_cons_succ]
      refine wpAnyH_take (i := 2) rfl (by kernel_rfl) (by kernel_rfl) (by kernel_rfl) (fun _ _ _ h => h) (Or.inl ⟨by rfl, by intro W hSW; (try dsimp only at hSW); go_simp; try (with_reducible rfl)⟩) hHeld ?_
      try simp only [Act.put, List.getElem_toArray, List.getElem_cons_zero, List.getElem_cons_succ, List.setIfInBounds_toArray, List.set_cons_zero, List.set_cons_succ]
      refine wpAnyH_ready (rs := [1, 3]) (by kernel_rfl) (by simp) ?_
      refine AllReadyH.cons rfl (fun K hK => ?_) (AllReadyH.cons rfl (fun K hK => ?_) AllReadyH.nil)
      · go_simp
        refine hK.out _ _ trivial ?_
        clear hK K hHeld
        intro hHeld
        try simp only [Act.put, List.getElem_toArray, List.getElem_cons_zero, List.getElem_cons_succ, List.setIfInBounds_toArray, List.set_cons_zero, List.set_cons_succ]
        refine wpAnyH_ready (rs := [3]) (by kernel_rfl) (by simp) ?_
        refine AllReadyH.cons rfl (fun K hK => ?_) AllReadyH.nil
        go_simp
        refine (HSK.out _ HDR.out).mono ?_
        rintro e w5 ⟨rfl, hr5, hg5⟩
        have hg5' : wr.grownBy w5 (some g) := only_to HDG.out hg5
        have HG5 := Lib.hid (HGK.out.num HD.out HG.out hr5 hg5')
        have HO5 := Lib.hid (ownk_keep HOW.out fun gg hb hlt => hg5'.block gg hlt (fun e => by injection e with e; have := HG.out; have := HD.out; omega))
        clear hr5 hg5 hg5'
        try go_wp2_with fail
        refine hK.out _ _ trivial ?_
        clear hK K hHeld
        intro hHeld
        try simp only [Act.put, List.getElem_toArray, List.getElem_cons_zero, List.getElem_cons_succ, List.setIfInBounds_toArray, List.set_cons_zero, List.set_cons_succ]
        refine wpAnyH_ready (rs := [4]) (by kernel_rfl) (by simp) ?_
        refine AllReadyH.cons rfl (fun K hK => ?_) AllReadyH.nil
        go_simp
        refine hK.out _ _ trivial ?_
        clear hK K hHeld
        intro hHeld
        try simp only [Act.put, List.getElem_toArray, List.getElem_cons_zero, List.getElem_cons_succ, List.setIfInBounds_toArray, List.set_cons_zero, List.set_cons_succ]
        refine wpAnyH_ready (rs := [5]) (by kernel_rfl) (by simp) ?_
        refine AllReadyH.cons rfl (fun K hK => ?_) AllReadyH.nil
        refine step_append_own rfl _ _ 135 rfl (D + 1) 2 iW (.int .i64 0) 1 8 Tryz.underlying135 hiW hzW0 hzW1 hzW2 rfl (by decide) _ k (ints (wds l k s2)) rfl (ownk_keep HO5.out fun gg hb hlt => Below.heap_alloc _ _ _ hlt) ⟨w5.heap.size, 0, none⟩ 1 [.int .i64 x] rfl rfl (fun j u hu => by rw [add_plain, Nat.zero_add]; exact ((Blk.new w5 2 #[.int .i64 x]).cell j).trans (by simpa using hu)) (by simp [Value.oneCell']) (by unfold maxLen; omega) (by omega) (by have := HG5.out.1.2.2.lt; simp; omega) ?_
        intro v' w6 h2 h3
        obtain ⟨A', c', rfl⟩ := own_formW h2
        have H2 := Lib.hid h2
        have H3 := Lib.hid h3
        clear h2 h3
        have HG6 := Lib.hid ((HG5.out.alloc HD.out HG.out _).grow HD.out HG.out H3.out fun r e => by have := (HO5.out.lt r e).1; omega)
        refine hK.out _ _ trivial ?_
        clear hK K hHeld
        intro hHeld
        try simp only [Act.put, List.getElem_toArray, List.getElem_cons_zero, List.getElem_cons_succ, List.setIfInBounds_toArray, List.set_cons_zero, List.set_cons_succ]
        refine wpAnyH_take (i := 6) rfl (by kernel_rfl) (by kernel_rfl) (by kernel_rfl) (fun _ _ _ h => h) (Or.inl ⟨by rfl, by intro W hSW; (try dsimp only at hSW); go_simp; try (with_reducible rfl)⟩) hHeld ?_
        try simp only [Act.put, List.getElem_toArray, List.getElem_cons_zero, List.getElem_cons_succ, List.setIfInBounds_toArray, List.set_cons_zero, List.set_cons_succ]
        have cD6 : w6.cell? ⟨D, 1, none⟩ = some v := HG6.out.1.2.2.cell 1
        have fD6 : w6.frozen? ⟨D, 1, none⟩ = false := HG6.out.1.2.2.frozen 1
        refine wpAnyH_ready (rs := [7]) (by kernel_rfl) (by simp) ?_
        refine AllReadyH.cons rfl (fun K hK => ?_) AllReadyH.nil
        go_simp
        refine hK.out _ _ trivial ?_
        clear hK K hHeld
        intro hHeld
        try simp only [Act.put, List.getElem_toArray, List.getElem_cons_zero, List.getElem_cons_succ, List.setIfInBounds_toArray, List.set_cons_zero, List.set_cons_succ]
        refine wpAnyH_done (by kernel_rfl) ?_ _
        refine NoPanic.normal ?_
        go_wp2_with fail
        clear cD cD2 cD6 fD6
        go_roundw
        case rel =>
          refine ⟨k + 1, _, by omega, by go_num, HG6.out.set1 HD.out HG.out _, ?_⟩
          rw [HWN.out, ← ints_app1]
          exact ownk_keep H2.out fun gg hb hlt => Below.heap_setCell _ ⟨D, 1, none⟩ _ gg (by show gg ≠ D; omega)
        case measure => simp [intOf]; omega
      · go_simp
        refine (HSK.out _ HDR.out).mono ?_
        rintro e w5 ⟨rfl, hr5, hg5⟩
        have hg5' : wr.grownBy w5 (some g) := only_to HDG.out hg5
        have HG5 := Lib.hid (HGK.out.num HD.out HG.out hr5 hg5')
        have HO5 := Lib.hid (ownk_keep HOW.out fun gg hb hlt => hg5'.block gg hlt (fun e => by injection e with e; have := HG.out; have := HD.out; omega))
        clear hr5 hg5 hg5'
        have cD5' : w5.cell? ⟨D, 1, none⟩ = some v := HG5.out.1.2.2.cell 1
        try go_wp2_with fail
        refine hK.out _ _ trivial ?_
        clear hK K hHeld
        intro hHeld
        try simp only [Act.put, List.getElem_toArray, List.getElem_cons_zero, List.getElem_cons_succ, List.setIfInBounds_toArray, List.set_cons_zero, List.set_cons_succ]
        have cDA : (w5.alloc (.cells #[.int .i64 x] 2)).cell? ⟨D, 1, none⟩ = some v := (HG5.out.alloc HD.out HG.out _).1.2.2.cell 1
        refine wpAnyH_ready (rs := [1, 4]) (by kernel_rfl) (by simp) ?_
        refine AllReadyH.cons rfl (fun K hK => ?_) (AllReadyH.cons rfl (fun K hK => ?_) AllReadyH.nil)
        · go_simp
          refine hK.out _ _ trivial ?_
          clear hK K hHeld
          intro hHeld
          try simp only [Act.put, List.getElem_toArray, List.getElem_cons_zero, List.getElem_cons_succ, List.setIfInBounds_toArray, List.set_cons_zero, List.set_cons_succ]
          clear cD5' cDA
          refine wpAnyH_ready (rs := [4]) (by kernel_rfl) (by simp) ?_
          refine AllReadyH.cons rfl (fun K hK => ?_) AllReadyH.nil
          go_simp
          refine hK.out _ _ trivial ?_
          clear hK K hHeld
          intro hHeld
          try simp only [Act.put, List.getElem_toArray, List.getElem_cons_zero, List.getElem_cons_succ, List.setIfInBounds_toArray, List.set_cons_zero, List.set_cons_succ]
          refine wpAnyH_ready (rs := [5]) (by kernel_rfl) (by simp) ?_
          refine AllReadyH.cons rfl (fun K hK => ?_) AllReadyH.nil
          refine step_append_own rfl _ _ 135 rfl (D + 1) 2 iW (.int .i64 0) 1 8 Tryz.underlying135 hiW hzW0 hzW1 hzW2 rfl (by decide) _ k (ints (wds l k s2)) rfl (ownk_keep HO5.out fun gg hb hlt => Below.heap_alloc _ _ _ hlt) ⟨w5.heap.size, 0, none⟩ 1 [.int .i64 x] rfl rfl (fun j u hu => by rw [add_plain, Nat.zero_add]; exact ((Blk.new w5 2 #[.int .i64 x]).cell j).trans (by simpa using hu)) (by simp [Value.oneCell']) (by unfold maxLen; omega) (by omega) (by have := HG5.out.1.2.2.lt; simp; omega) ?_
          intro v' w6 h2 h3
          obtain ⟨A', c', rfl⟩ := own_formW h2
          have H2 := Lib.hid h2
          have H3 := Lib.hid h3
          clear h2 h3
          have HG6 := Lib.hid ((HG5.out.alloc HD.out HG.out _).grow HD.out HG.out H3.out fun r e => by have := (HO5.out.lt r e).1; omega)
          refine hK.out _ _ trivial ?_
          clear hK K hHeld
          intro hHeld
          try simp only [Act.put, List.getElem_toArray, List.getElem_cons_zero, List.getElem_cons_succ, List.setIfInBounds_toArray, List.set_cons_zero, List.set_cons_succ]
          refine wpAnyH_take (i := 6) rfl (by kernel_rfl) (by kernel_rfl) (by kernel_rfl) (fun _ _ _ h => h) (Or.inl ⟨by rfl, by intro W hSW; (try dsimp only at hSW); go_simp; try (with_reducible rfl)⟩) hHeld ?_
          try simp only [Act.put, List.getElem_toArray, List.getElem_cons_zero, List.getElem_cons_succ, List.setIfInBounds_toArray, List.set_cons_zero, List.set_cons_succ]
          have cD6 : w6.cell? ⟨D, 1, none⟩ = some v := HG6.out.1.2.2.cell 1
          have fD6 : w6.frozen? ⟨D, 1, none⟩ = false := HG6.out.1.2.2.frozen 1
          refine wpAnyH_ready (rs := [7]) (by kernel_rfl) (by simp) ?_
          refine AllReadyH.cons rfl (fun K hK => ?_) AllReadyH.nil
          go_simp
          refine hK.out _ _ trivial ?_
          clear hK K hHeld
          intro hHeld
          try simp only [Act.put, List.getElem_toArray, List.getElem_cons_zero, List.getElem_cons_succ, List.setIfInBounds_toArray, List.set_cons_zero, List.set_cons_succ]
          refine wpAnyH_done (by kernel_rfl) ?_ _
          refine NoPanic.normal ?_
          go_wp2_with fail
          clear cD cD2 cD6 fD6
          go_roundw
          case rel =>
            refine ⟨k + 1, _, by omega, by go_num, HG6.out.set1 HD.out HG.out _, ?_⟩
            rw [HWN.out, ← ints_app1]
            exact ownk_keep H2.out fun gg hb hlt => Below.heap_setCell _ ⟨D, 1, none⟩ _ gg (by show gg ≠ D; omega)
          case measure => simp [intOf]; omega
        · go_simp
          refine hK.out _ _ trivial ?_
          clear hK K hHeld
          intro hHeld
          try simp only [Act.put, List.getElem_toArray, List.getElem_cons_zero, List.getElem_cons_succ, List.setIfInBounds_toArray, List.set_cons_zero, List.set_cons_succ]
          refine wpAnyH_ready (rs := [1]) (by kernel_rfl) (by simp) ?_
          refine AllReadyH.cons rfl (fun K hK => ?_) AllReadyH.nil
          go_simp
          refine hK.out _ _ trivial ?_
          clear hK K hHeld
          intro hHeld
          try simp only [Act.put, List.getElem_toArray, List.getElem_cons_zero, List.getElem_cons_succ, List.setIfInBounds_toArray, List.set_cons_zero, List.set_cons_succ]
          clear cD5' cDA
          refine wpAnyH_ready (rs := [5]) (by kernel_rfl) (by simp) ?_
          refine AllReadyH.cons rfl (fun K hK => ?_) AllReadyH.nil
          refine step_append_own rfl _ _ 135 rfl (D + 1) 2 iW (.int .i64 0) 1 8 Tryz.underlying135 hiW hzW0 hzW1 hzW2 rfl (by decide) _ k (ints (wds l k s2)) rfl (ownk_keep HO5.out fun gg hb hlt => Below.heap_alloc _ _ _ hlt) ⟨w5.heap.size, 0, none⟩ 1 [.int .i64 x] rfl rfl (fun j u hu => by rw [add_plain, Nat.zero_add]; exact ((Blk.new w5 2 #[.int .i64 x]).cell j).trans (by simpa using hu)) (by simp [Value.oneCell']) (by unfold maxLen; omega) (by omega) (by have := HG5.out.1.2.2.lt; simp; omega) ?_
          intro v' w6 h2 h3
          obtain ⟨A', c', rfl⟩ := own_formW h2
          have H2 := Lib.hid h2
          have H3 := Lib.hid h3
          clear h2 h3
          have HG6 := Lib.hid ((HG5.out.alloc HD.out HG.out _).grow HD.out HG.out H3.out fun r e => by have := (HO5.out.lt r e).1; omega)
          refine hK.out _ _ trivial ?_
          clear hK K hHeld
          intro hHeld
          try simp only [Act.put, List.getElem_toArray, List.getElem_cons_zero, List.getElem_cons_succ, List.setIfInBounds_toArray, List.set_cons_zero, List.set_cons_succ]
          refine wpAnyH_take (i := 6) rfl (by kernel_rfl) (by kernel_rfl) (by kernel_rfl) (fun _ _ _ h => h) (Or.inl ⟨by rfl, by intro W hSW; (try dsimp only at hSW); go_simp; try (with_reducible rfl)⟩) hHeld ?_
          try simp only [Act.put, List.getElem_toArray, List.getElem_cons_zero, List.getElem_cons_succ, List.setIfInBounds_toArray, List.set_cons_zero, List.set_cons_succ]
          have cD6 : w6.cell? ⟨D, 1, none⟩ = some v := HG6.out.1.2.2.cell 1
          have fD6 : w6.frozen? ⟨D, 1, none⟩ = false := HG6.out.1.2.2.frozen 1
          refine wpAnyH_ready (rs := [7]) (by kernel_rfl) (by simp) ?_
          refine AllReadyH.cons rfl (fun K hK => ?_) AllReadyH.nil
          go_simp
          refine hK.out _ _ trivial ?_
          clear hK K hHeld
          intro hHeld
          try simp only [Act.put, List.getElem_toArray, List.getElem_cons_zero, List.getElem_cons_succ, List.setIfInBounds_toArray, List.set_cons_zero, List.set_cons_succ]
          refine wpAnyH_done (by kernel_rfl) ?_ _
          refine NoPanic.normal ?_
          go_wp2_with fail
          clear cD cD2 cD6 fD6
          go_roundw
          case rel =>
            refine ⟨k + 1, _, by omega, by go_num, HG6.out.set1 HD.out HG.out _, ?_⟩
            rw [HWN.out, ← ints_app1]
            exact ownk_keep H2.out fun gg hb hlt => Below.heap_setCell _ ⟨D, 1, none⟩ _ gg (by show gg ≠ D; omega)
          case measure => simp [intOf]; omega
    · obtain rfl : k = N1 := by omega
      obtain ⟨AW, cW, rfl⟩ := own_formW HOW.out
      rw [HS3.out] at HGK
      have HNB := Lib.hid hN1B
      have HV1 := Lib.hid (show ∀ r, Value.ownBlock (.slice AW k cW) = some r → r < wr.heap.size from fun r e => (HOW.out.lt r e).2)
      obtain ⟨B2, hB2⟩ : ∃ B, wr.heap.size = B := ⟨_, rfl⟩
      have HB2 := Lib.hid hB2
      rw [hB2] at HV1
      have HDB := Lib.hid (show D < B2 by rw [← hB2]; exact HGK.out.1.2.2.lt)
      clear hk hlt hN1B hB2
      go_wp2_with fail
      refine (HN2.out wr HGK.out.1.1).mono ?_
      rintro e w3 ⟨rfl, hr3, hg3⟩
      have HGI3 := Lib.hid (HGK.out.num HD.out HG.out hr3 hg3)
      have HO3 := Lib.hid (ownk_keep HOW.out fun gg hb hlt => hg3.block gg hlt (fun e => by injection e with e; have := HG.out; have := HD.out; omega))
      have HS3' := Lib.hid (show B2 ≤ w3.heap.size by have := HB2.out; have := hg3.size; omega)
      clear hr3 hg3 HOW HGK HB2
      go_wp2_with fail
      go_loopw [24] (fun i wr => ∃ (q : Nat) (v : Value) (xs : List Rl) (st : Std), q ≤ N2 ∧ i = .int .i64 (q : Int) ∧ GI w g A c l D kd st (.slice AW k cW) v wr ∧ wr.ownsRow (D + 1) 2 1 (.slice AW k cW) k (ints (wds l k s2)) ∧ wr.ownsRow B2 82 3 v q (flRl xs) ∧ Hid (B2 ≤ wr.heap.size) ∧ Hid (xs.length = q) ∧ Hid ((rfs l N2 s4).1 = (rfs l (N2 - q) st).1.map (xs ++ ·) ∧ (rfs l N2 s4).2 = (rfs l (N2 - q) st).2)) (fun i _ => N2 - (intOf i).toNat)
      case atStart => exact ⟨0, _, [], s4, Nat.zero_le _, rfl, HGI3.out, HO3.out, World.ownsRow_nil _ _ _ _, HS3', Lib.hid rfl, Lib.hid ⟨by simp, rfl⟩⟩
      case round =>
        obtain ⟨q, v, xs, st, hq, rfl, hgi, hrow, hown, HSZ, HXL, HINV⟩ := hrel
        have HGK := Lib.hid hgi
        have HRW := Lib.hid hrow
        have HOW := Lib.hid hown
        clear hgi hrow hown
        by_cases hlt : q < N2
        · have hqI : (q : Int) < (N2 : Int) := by omega
          have hsub : N2 - q = (N2 - (q + 1)) + 1 := by omega
          have HT := Lib.hid (HTK.out wr st HGK.out.1.1)
          unfold TkAns at HT
          by_cases h1 : 1 < tkW l st
          · have e0 : decide (tkW l st ≤ 1) = false := by simp; omega
            have e1 : tkR l st = (0, 0, false) := by unfold tkR; rw [if_pos h1]
            rw [e0, e1] at HT
            have HF := Lib.hid (show (rfs l N2 s4).1 = none ∧ (rfs l N2 s4).2 = t3 l st from by rw [HINV.out.1, HINV.out.2, hsub, rfs, if_pos h1]; exact ⟨rfl, rfl⟩)
            clear h1 e0 e1 hsub
            go_wp2_with fail
            refine HT.out.mono ?_
            rintro e w5 ⟨rfl, hr5, hg5⟩
            have HP := Lib.hid (GI.putR HG.out (HGK.out.num HD.out HG.out hr5 hg5) (.int .i64 0) (.slice none 0 0) (.slice none 0 0))
            have HR5 := Lib.hid (show w.heap.size < w5.heap.size by have := (HGK.out.num HD.out HG.out hr5 hg5).1.2.2.lt; have := HD.out; omega)
            obtain ⟨r0, r1, r2⟩ := blk_ce3 (HGK.out.num HD.out HG.out hr5 hg5).1.2.1
            obtain ⟨q0, q1, q2⟩ := blk_fr3 (HGK.out.num HD.out HG.out hr5 hg5).1.2.1
            have hlt5 := HR5.out
            clear hr5 hg5
            go_wp2_with fail
            obtain ⟨x0, x1, x2⟩ := blk_ce3 (HP.out.2.1.alloc (.cells #[.int .i64 0, .int .i64 0, .bool false] 82))
            refine bodyPost_ret (v := .tuple #[.agg #[.int .i64 0, .slice none 0 0, .slice none 0 0], .int .i64 3]) (by simp [results, Tryz.results201, go_sem, x0, x1, x2]) rfl ?_
            have hd : gdV l s = ⟨0, [], [], 3⟩ := by rw [HGD.out, HF.out.1]
            rw [hd, HGR.out, HF.out.2]
            exact ⟨none, 0, none, 0, rfl, .nil, Wd.nil, rdS_below HP.out.1 (alloc_ _ _) (by simp [World.setCell]; have := HG.out; omega), only_alloc HP.out.2.2 _⟩
          · have e0 : decide (tkW l st ≤ 1) = true := by simp; omega
            have e1 : tkR l st = tkX l st := by unfold tkR; rw [if_neg h1]
            rw [e0, e1] at HT
            have HINV2 := Lib.hid (show (rfs l N2 s4).1 = (rfs l (N2 - (q + 1)) (t3 l st)).1.map ((xs ++ [tkX l st]) ++ ·) ∧ (rfs l N2 s4).2 = (rfs l (N2 - (q + 1)) (t3 l st)).2 from by
              rw [HINV.out.1, HINV.out.2, hsub, rfs, if_neg h1]
              refine ⟨?_, rfl⟩
              rw [Option.map_map]
              congr 1
              funext y
              simp)
            generalize tkX l st = x at HT HINV2
            clear h1 e0 e1 hsub HINV
            have HNB2 := Lib.hid hN2B
            go_wp2_with fail
            refine HT.out.mono ?_
            rintro e w5 ⟨rfl, hr5, hg5⟩
            have HG5 := Lib.hid (HGK.out.num HD.out HG.out hr5 hg5)
            have hne : ∀ gg, D + 1 ≤ gg → gg < wr.heap.size → w5.heap[gg]? = wr.heap[gg]? := fun gg hb hlt => hg5.block gg hlt (fun e => by injection e with e; have := HG.out; have := HD.out; omega)
            have HRW5 := Lib.hid (ownk_keep HRW.out hne)
            have HOW5 := Lib.hid (ownk_keep HOW.out fun gg hb hlt => hne gg (by have := HDB.out; omega) hlt)
            have HSZ5 := Lib.hid (show B2 ≤ w5.heap.size by have := HSZ.out; have := hg5.size; omega)
            have cD : w5.cell? ⟨D, 2, none⟩ = some v := HG5.out.1.2.2.cell 2
            have hDl : D < w5.heap.size := HG5.out.1.2.2.lt
            have hB5 : Below w5.heap.size w5 ((w5.alloc (.cells #[.int .i64 x.1, .int .i64 x.2.1, .bool x.2.2] 82)).alloc (.cells #[.int .i64 x.1, .int .i64 x.2.1, .bool x.2.2] 82)) := to_ (alloc_ _ _) (alloc_ _ _)
            have HB5 := Lib.hid hB5
            clear hr5 hg5 hne hB5
            go_wp2_with (at_builtin; go_loud (refine wpList_append_own _ rfl _ _ 25 rfl B2 82 iR (.agg #[.int .i64 0, .int .i64 0, .bool false]) 3 24 Tryz.underlying25 hiR hzR0 hzR1 hzR2 rfl (by decide) _ _ _ rfl (ownk_keep HOW5.out fun gg hb hlt => HB5.out.block gg hlt) ⟨w5.heap.size + 1, 0, none⟩ 1 1 (encRl x) rfl rfl (fun j u hu => by rw [add_plain, Nat.zero_add]; have h9 := (Blk.new (w5.alloc (.cells #[.int .i64 x.1, .int .i64 x.2.1, .bool x.2.2] 82)) 82 #[.int .i64 x.1, .int .i64 x.2.1, .bool x.2.2]).cell j; rw [World.size_alloc] at h9; exact h9.trans (by simpa [encRl] using hu)) (by simp [encRl, Value.oneCell']) (by unfold maxLen; omega) (by omega) (by have := HSZ5.out; simp; omega) ?_; intro v' w6 h2 h3 h4; clear h4; rw [flRl_snoc] at h2; obtain ⟨A', c', rfl⟩ := own_formW h2; have H2 := Lib.hid h2; have H3 := Lib.hid h3; have HG6 := Lib.hid (((HG5.out.alloc HD.out HG.out _).alloc HD.out HG.out _).grow HD.out HG.out h3 fun r e => by have := (HOW5.out.lt r e).1; have := HDB.out; omega); have cD6 : w6.cell? ⟨D, 2, none⟩ = some v := HG6.out.1.2.2.cell 2; have fD6 : w6.frozen? ⟨D, 2, none⟩ = false := HG6.out.1.2.2.frozen 2; clear h2 h3))
            go_roundw
            case rel =>
              refine ⟨q + 1, _, xs ++ [x], t3 l st, by omega, by go_num, HG6.out.set2 HD.out HG.out _, ?_, ?_, Lib.hid ?_, Lib.hid (by rw [List.length_append, HXL.out]; rfl), HINV2⟩
              · refine own_keep1 HRW5.out fun gg hb hlt hr => ?_
                have h1 := HV1.out gg hr
                have h5 := HSZ5.out
                exact (Below.heap_setCell _ ⟨D, 2, none⟩ _ gg (by show gg ≠ D; omega)).trans ((H3.out.block gg (by have := HB5.out.size; omega) (fun e => by have := (HOW5.out.lt gg e.symm).1; omega)).trans (HB5.out.block gg hlt))
              · exact ownk_keep H2.out fun gg hb hlt => Below.heap_setCell _ ⟨D, 2, none⟩ _ gg (by show gg ≠ D; have := HDB.out; omega)
              · have h1 := H3.out.size
                have h2 := HB5.out.size
                have h3 := HSZ5.out
                simp [World.setCell]; omega
            case measure => simp [intOf]; omega
        · obtain rfl : q = N2 := by omega
          have hb := HBD.out wr st HGK.out.1.1
          obtain ⟨bl, hbl⟩ : ∃ bl, st.2 = bl := ⟨_, rfl⟩
          rw [hbl] at hb
          have HB := Lib.hid hb
          have hz := HINV.out
          rw [Nat.sub_self] at hz
          have HZ := Lib.hid (show (rfs l q s4).1 = some xs ∧ (rfs l q s4).2 = st from by rw [hz.1, hz.2]; unfold rfs; simp)
          obtain ⟨r0, r1, r2⟩ := blk_ce3 HGK.out.1.2.1
          obtain ⟨q0, q1, q2⟩ := blk_fr3 HGK.out.1.2.1
          cases bl with
          | false =>
            have HP := Lib.hid (GI.putR HG.out HGK.out (.int .i64 0) (.slice none 0 0) (.slice none 0 0))
            have HF := Lib.hid (show gdV l s = ⟨0, [], [], 5⟩ from by rw [HGD.out, HZ.out.1, HZ.out.2]; simp [hbl])
            clear hz hb hbl
            go_wp2_with (go_at_call 227; refine HB.out.mono ?_; rintro e w10 ⟨rfl, rfl⟩)
            obtain ⟨x0, x1, x2⟩ := blk_ce3 HP.out.2.1
            refine bodyPost_ret (v := .tuple #[.agg #[.int .i64 0, .slice none 0 0, .slice none 0 0], .int .i64 5]) (by simp [results, Tryz.results201, go_sem, x0, x1, x2]) rfl ?_
            rw [HF.out, HGR.out, HZ.out.2]
            exact ⟨none, 0, none, 0, rfl, .nil, Wd.nil, HP.out.1, HP.out.2.2⟩
          | true =>
            obtain ⟨AR, cR, rfl, hl⟩ := RlL.own HXL.out HOW.out
            have HL := Lib.hid hl
            have HP := Lib.hid (GI.putR HG.out HGK.out (.int .i64 kd) (.slice AW k cW) (.slice AR q cR))
            have HF := Lib.hid (show gdV l s = ⟨kd, wds l k s2, xs, 0⟩ from by rw [HGD.out, HZ.out.1, HZ.out.2]; simp [hbl])
            obtain ⟨d0, d1, d2⟩ := blk_ce3 HGK.out.1.2.2
            have HWL := Lib.hid (wds_len l k s2)
            clear hz hb hbl hl
            go_wp2_with (go_at_call 227; refine HB.out.mono ?_; rintro e w10 ⟨rfl, rfl⟩)
            obtain ⟨x0, x1, x2⟩ := blk_ce3 HP.out.2.1
            refine bodyPost_ret (v := .tuple #[.agg #[.int .i64 kd, .slice AW k cW, .slice AR q cR], .int .i64 0]) (by simp [results, Tryz.results201, go_sem, x0, x1, x2]) rfl ?_
            rw [HF.out, HGR.out, HZ.out.2]
            refine ⟨AW, cW, AR, cR, ?_, ?_, ?_, HP.out.1, HP.out.2.2⟩
            · simp only [HWL.out, HXL.out]
            · simp only [HWL.out]
              have h9 := ownk_keep (w' := (((wr.setCell ⟨w.heap.size, 0, none⟩ (.int .i64 kd)).setCell ⟨w.heap.size, 1, none⟩ (.slice AW k cW)).setCell ⟨w.heap.size, 2, none⟩ (.slice AR q cR))) HRW.out fun gg hb hlt => heap_put3 wr w.heap.size gg (by have := HD.out; omega) _ _ _
              exact SlV.of_own h9
            · simp only [HXL.out]
              have h9 := ownk_keep (w' := (((wr.setCell ⟨w.heap.size, 0, none⟩ (.int .i64 kd)).setCell ⟨w.heap.size, 1, none⟩ (.slice AW k cW)).setCell ⟨w.heap.size, 2, none⟩ (.slice AR q cR))) HOW.out fun gg hb hlt => heap_put3 wr w.heap.size gg (by have := HD.out; have := HDB.out; omega) _ _ _
              obtain ⟨A9, c9, e9, h9⟩ := RlL.own HXL.out h9
              injection e9 with e1 e2 e3
              subst e1 e3
              exact h9
end Go.Proofs.YtbknmapkdjmcjaaGreatDoor.By
