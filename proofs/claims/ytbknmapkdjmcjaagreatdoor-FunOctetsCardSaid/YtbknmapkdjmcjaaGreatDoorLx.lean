/-
  WALKS of layer 16: the document's head of a function. (Jh, Eg, Kf, Kg, Eh, Kh, Ki in one)
-/
import Derived.Test.YtbknmapkdjmcjaaGreatDoorEf
import Derived.Test.YtbknmapkdjmcjaaGreatDoorJe
import Derived.RegionTactic
import Derived.BigRegion

namespace Go.Proofs.YtbknmapkdjmcjaaGreatDoor.By
open Go.RowKit
open Mem Gm Rf
set_option linter.unusedSimpArgs false

/-- How the reader stands behind k numbers of so many bytes each. -/
def stQ (wd : Nat → Int) (l : List UInt8) (s : Std) : Nat → Std
  | 0 => s
  | k + 1 => pgS l (stQ wd l s k) (wd k)
theorem stQ_le {wd : Nat → Int} {l : List UInt8} {s : Std} (h : s.1 ≤ l.length) : ∀ k, (stQ wd l s k).1 ≤ l.length
  | 0 => h
  | k + 1 => pgS_le (stQ_le h k) _
def vlQ (wd : Nat → Int) (l : List UInt8) (s : Std) (k : Nat) : List Int := (List.range k).map fun i => rvS l (stQ wd l s i) (wd i)
theorem vlQ_next (wd : Nat → Int) (l : List UInt8) (s : Std) (k : Nat) : vlQ wd l s (k + 1) = vlQ wd l s k ++ [rvS l (stQ wd l s k) (wd k)] := by unfold vlQ; rw [List.range_succ]; simp
theorem vlQ_len (wd : Nat → Int) (l : List UInt8) (s : Std) (k : Nat) : (vlQ wd l s k).length = k := by simp [vlQ]

def NqAns (wd : Nat → Int) (M : Nat) (l : List UInt8) (s : Std) (w : World) (A : Option Addr) (n c : Nat) (e : Ending) (w' : World) : Prop :=
  ∃ A2 c2, e = .returned (.tuple #[.agg #[.slice A n c, .int .i64 ((stQ wd l s M).1 : Int), .bool (!(stQ wd l s M).2)], .slice A2 M c2]) ∧ SlV w' w'.heap.size (.slice A2 M c2) (ints (vlQ wd l s M)) ∧ Below w.heap.size w w' ∧ ∀ ad, A2 = some ad → w.heap.size ≤ ad.block

set_option maxRecDepth 100000 in
set_option maxHeartbeats 1000000 in
theorem numsQ_any (wd : Nat → Int) (M : Nat) (hM : M ≤ 1000) (w : World) (A : Option Addr) (n c g0 : Nat) (l : List UInt8) (s : Std) (hn : l.length = n) (hl : n ≤ 1000000) (hs : s.1 ≤ n) (hv : SlV w w.heap.size (.slice A n c) (u8s l)) (hg : g0 < w.heap.size) (hw : ∀ k : Nat, k < M → w.cell? ⟨g0, k, none⟩ = some (.int .i64 (wd k))) :
    Calls Tryz.prog 163 #[.agg (rdC A n c s), .slice (some ⟨g0, 0, none⟩) M M] w (NqAns wd M l s w A n c) := by
  obtain ⟨i0, hi, hz0, hz1, hz2⟩ := info_parts info2
  have HNM := Lib.hid (show ∀ W (k : Nat), Below w.heap.size w W → Calls Tryz.prog 86 #[.agg #[.slice A n c, .int .i64 ((stQ wd l s k).1 : Int), .bool (!(stQ wd l s k).2)], .int .i64 (wd k), .bool false] W fun e w' => e = .returned (.tuple #[.agg #[.slice A n c, .int .i64 ((stQ wd l s (k + 1)).1 : Int), .bool (!(stQ wd l s (k + 1)).2)], .int .i64 (rvS l (stQ wd l s k) (wd k))]) ∧ Below W.heap.size W w' from fun W k hb => by
    have := rnum_any W w.heap.size A c l (stQ wd l s k).1 (stQ wd l s k).2 false (wd k) (stQ_le (by omega) k) (by omega) (by rw [hn]; exact hv.below hb)
    rw [hn] at this; exact this)
  have HW := Lib.hid (show ∀ W (k : Nat), k < M → Below w.heap.size w W → W.cell? ⟨g0, k, none⟩ = some (.int .i64 (wd k)) from fun W k hk hb => (hb.cell hg).trans (hw k hk))
  obtain ⟨W0, hW0⟩ : ∃ W0, (w.alloc (.cells (rdC A n c s) 42)).alloc (.cells #[.slice none 0 0, .int .i64 0, .bool false] 42) = W0 := ⟨_, rfl⟩
  have HS0 := Lib.hid (show Blk W0 w.heap.size 42 (rdC A n c (stQ wd l s 0)) ∧ Blk W0 (w.heap.size + 1) 42 #[.slice none 0 0, .int .i64 0, .bool false] ∧ Below w.heap.size w W0 from by
    rw [← hW0]
    refine ⟨(Blk.new w _ _).alloc _, ?_, to_ (alloc_ _ _) (alloc_ _ _)⟩
    have := Blk.new (w.alloc (.cells (rdC A n c s) 42)) 42 #[.slice none 0 0, .int .i64 0, .bool false]
    rwa [World.size_alloc] at this)
  clear hv hg hw hn hs hl
  unfold rdC at hW0 ⊢
  go_enter Tryz.func163, Tryz.ntmps163
  go_wp2_with fail
  clear hW0
  go_loopw [6, 7] (fun v i wr => ∃ k : Nat, k ≤ M ∧ i = .int .i64 (k : Int) ∧ Blk wr w.heap.size 42 (rdC A n c (stQ wd l s k)) ∧ Blk wr (w.heap.size + 1) 42 #[.slice none 0 0, .int .i64 0, .bool false] ∧ wr.ownsRow (w.heap.size + 2) 2 1 v k (ints (vlQ wd l s k)) ∧ Below w.heap.size w wr ∧ Hid (w.heap.size + 2 ≤ wr.heap.size)) (fun _ i _ => M - (intOf i).toNat)
  case atStart => exact ⟨0, Nat.zero_le _, rfl, HS0.out.1, HS0.out.2.1, World.ownsRow_nil _ _ _ _, HS0.out.2.2, Lib.hid (by have := HS0.out.2.1.lt; omega)⟩
  case round =>
    obtain ⟨k, hk, rfl, hxb, hrb, hown, hbel, HSZ⟩ := hrel
    have HXB := Lib.hid hxb
    have HRB := Lib.hid hrb
    have HOW := Lib.hid hown
    have HBE := Lib.hid hbel
    by_cases hlt : k < M
    · have hkI : (k : Int) < (M : Int) := by omega
      have hwk := HW.out wr k hlt hbel
      have HNK := Lib.hid (fun W (hb : Below w.heap.size w W) => HNM.out W k hb)
      have HVN := Lib.hid (vlQ_next wd l s k)
      have HXB2 := Lib.hid (show Blk wr w.heap.size 42 #[.slice A n c, .int .i64 ((stQ wd l s k).1 : Int), .bool (!(stQ wd l s k).2)] from hxb)
      obtain ⟨x0, x1, x2⟩ := blk_ce3 HXB2.out
      obtain ⟨f0, f1, f2⟩ := blk_fr3 HXB2.out
      obtain ⟨p, hp⟩ : ∃ p : Nat, (stQ wd l s k).1 = p := ⟨_, rfl⟩
      obtain ⟨bd, hbd⟩ : ∃ bd, (!(stQ wd l s k).2) = bd := ⟨_, rfl⟩
      rw [hp] at x1 HNK HXB2
      rw [hbd] at x2 HNK HXB2
      generalize rvS l (stQ wd l s k) (wd k) = z at HNK HVN
      obtain ⟨t, ht⟩ : ∃ t, stQ wd l s (k + 1) = t := ⟨_, rfl⟩
      rw [ht] at HNK
      have HT := Lib.hid ht

      clear hxb hrb hown hbel hp hbd ht
      have HSS := Lib.hid (show ∀ W, Below wr.heap.size wr W → (W.cell? ⟨w.heap.size, 0, none⟩ = some (.slice A n c) ∧ W.cell? ⟨w.heap.size, 1, none⟩ = some (.int .i64 (p : Int)) ∧ W.cell? ⟨w.heap.size, 2, none⟩ = some (.bool bd)) ∧ W.cell? ⟨g0, k, none⟩ = some (.int .i64 (wd k)) from fun W hb => ⟨⟨(hb.cell (World.block_lt_of_cell? _ _ x0)).trans x0, (hb.cell (World.block_lt_of_cell? _ _ x1)).trans x1, (hb.cell (World.block_lt_of_cell? _ _ x2)).trans x2⟩, (hb.cell (World.block_lt_of_cell? _ _ hwk)).trans hwk⟩)
      go_wp2_with fail
      refine wp_region_noPanic ?_
      refine wp_region_held_drew (S := fun W => (W.cell? ⟨w.heap.size, 0, none⟩ = some (.slice A n c) ∧ W.cell? ⟨w.heap.size, 1, none⟩ = some (.int .i64 (p : Int)) ∧ W.cell? ⟨w.heap.size, 2, none⟩ = some (.bool bd)) ∧ W.cell? ⟨g0, k, none⟩ = some (.int .i64 (wd k))) (by kernel_rfl) (⟨⟨x0, x1, x2⟩, hwk⟩) (fun hHeld => ?_)
      refine wpAnyH_take (i := 0) rfl (by kernel_rfl) (by kernel_rfl) (by kernel_rfl) (fun _ _ _ h => h) (Or.inl ⟨by rfl, by intro W hSW; (try dsimp only at hSW); go_simp; try (with_reducible rfl)⟩) hHeld ?_
      try simp only [Act.put, List.getElem_toArray, List.getElem_cons_zero, List.getElem_cons_succ, List.setIfInBounds_toArray, List.set_cons_zero, List.set_cons_succ]
      refine wpAnyH_take (i := 1) rfl (by kernel_rfl) (by kernel_rfl) (by kernel_rfl) (fun _ _ _ h => h) (Or.inl ⟨by rfl, by intro W hSW; (try dsimp only at hSW); go_simp; try (with_reducible rfl)⟩) hHeld ?_
      try simp only [Act.put, List.getElem_toArray, List.getElem_cons_zero, List.getElem_cons_succ, List.setIfInBounds_toArray, List.set_cons_zero, List.set_cons_succ]
      refine wpAnyH_take (i := 2) rfl (by kernel_rfl) (by kernel_rfl) (by kernel_rfl) (fun _ _ _ h => h) (Or.inl ⟨by rfl, by intro W hSW; (try dsimp only at hSW); go_simp; try (with_reducible rfl)⟩) hHeld ?_
      try simp only [Act.put, List.getElem_toArray, List.getElem_cons_zero, List.getElem_cons_succ, List.setIfInBounds_toArray, List.set_cons_zero, List.set_cons_succ]
      refine wpAnyH_take (i := 3) rfl (by kernel_rfl) (by kernel_rfl) (by kernel_rfl) (fun _ _ _ h => h) (Or.inl ⟨by rfl, by intro W hSW; (try dsimp only at hSW); go_simp; try (with_reducible rfl)⟩) hHeld ?_
      try simp only [Act.put, List.getElem_toArray, List.getElem_cons_zero, List.getElem_cons_succ, List.setIfInBounds_toArray, List.set_cons_zero, List.set_cons_succ]
      refine wpAnyH_take (i := 4) rfl (by kernel_rfl) (by kernel_rfl) (by kernel_rfl) (fun _ _ _ h => h) (Or.inl ⟨by rfl, by intro W hSW; (try dsimp only at hSW); go_simp; try (with_reducible rfl)⟩) hHeld ?_
      try simp only [Act.put, List.getElem_toArray, List.getElem_cons_zero, List.getElem_cons_succ, List.setIfInBounds_toArray, List.set_cons_zero, List.set_cons_succ]
      refine wpAnyH_ready (rs := [5, 9]) (by kernel_rfl) (by simp) ?_
      refine AllReadyH.cons rfl (fun K hK => ?_) (AllReadyH.cons rfl (fun K hK => ?_) AllReadyH.nil)
      · go_simp
        refine (HNK.out wr.drew HBE.out.drew).mono ?_
        rintro e w2 ⟨rfl, b2⟩
        have B2 := Lib.hid (show Below wr.heap.size wr w2 from (Below.refl _ wr).drew.trans b2)
        clear b2
        try go_wp2_with fail
        refine hK.out _ _ (HSS.out _ B2.out) ?_
        clear hK K hHeld
        intro hHeld
        try simp only [Act.put, List.getElem_toArray, List.getElem_cons_zero, List.getElem_cons_succ, List.setIfInBounds_toArray, List.set_cons_zero, List.set_cons_succ]
        refine wpAnyH_take (i := 6) rfl (by kernel_rfl) (by kernel_rfl) (by kernel_rfl) (fun _ _ _ h => h) (Or.inl ⟨by rfl, by intro W hSW; (try dsimp only at hSW); go_simp; try (with_reducible rfl)⟩) hHeld ?_
        try simp only [Act.put, List.getElem_toArray, List.getElem_cons_zero, List.getElem_cons_succ, List.setIfInBounds_toArray, List.set_cons_zero, List.set_cons_succ]
        refine wpAnyH_take (i := 7) rfl (by kernel_rfl) (by kernel_rfl) (by kernel_rfl) (fun _ _ _ h => h) (Or.inl ⟨by rfl, by intro W hSW; (try dsimp only at hSW); go_simp; try (with_reducible rfl)⟩) hHeld ?_
        try simp only [Act.put, List.getElem_toArray, List.getElem_cons_zero, List.getElem_cons_succ, List.setIfInBounds_toArray, List.set_cons_zero, List.set_cons_succ]
        refine wpAnyH_take (i := 8) rfl (by kernel_rfl) (by kernel_rfl) (by kernel_rfl) (fun _ _ _ h => h) (Or.inl ⟨by rfl, by intro W hSW; (try dsimp only at hSW); go_simp; try (with_reducible rfl)⟩) hHeld ?_
        try simp only [Act.put, List.getElem_toArray, List.getElem_cons_zero, List.getElem_cons_succ, List.setIfInBounds_toArray, List.set_cons_zero, List.set_cons_succ]
        refine wpAnyH_ready (rs := [9]) (by kernel_rfl) (by simp) ?_
        refine AllReadyH.cons rfl (fun K hK => ?_) AllReadyH.nil
        go_simp
        refine hK.out _ _ (HSS.out _ (to_ B2.out (alloc_ _ _))) ?_
        clear hK K hHeld
        intro hHeld
        try simp only [Act.put, List.getElem_toArray, List.getElem_cons_zero, List.getElem_cons_succ, List.setIfInBounds_toArray, List.set_cons_zero, List.set_cons_succ]
        refine wpAnyH_ready (rs := [10]) (by kernel_rfl) (by simp) ?_
        refine AllReadyH.cons rfl (fun K hK => ?_) AllReadyH.nil
        go_simp
        obtain ⟨wf, hwf⟩ : ∃ wf, w2.alloc (.cells #[.slice A n c, .int .i64 (t.1 : Int), .bool (!t.2)] 42) = wf := ⟨_, rfl⟩
        rw [hwf]
        have HFW := Lib.hid (show Below wr.heap.size wr wf from by rw [← hwf]; exact to_ B2.out (alloc_ _ _))
        have HFB := Lib.hid (show Blk wf w2.heap.size 42 #[.slice A n c, .int .i64 (t.1 : Int), .bool (!t.2)] from by rw [← hwf]; exact Blk.new w2 _ _)
        clear hwf x0 x1 x2 f0 f1 f2 hwk
        refine hK.out _ _ (HSS.out _ HFW.out) ?_
        clear hK K hHeld
        intro hHeld
        try simp only [Act.put, List.getElem_toArray, List.getElem_cons_zero, List.getElem_cons_succ, List.setIfInBounds_toArray, List.set_cons_zero, List.set_cons_succ]
        refine wpAnyH_take (i := 11) rfl (by kernel_rfl) (by kernel_rfl) (by kernel_rfl) (fun _ _ _ h => h) (Or.inl ⟨by rfl, by intro W hSW; (try dsimp only at hSW); go_simp; try (with_reducible rfl)⟩) hHeld ?_
        try simp only [Act.put, List.getElem_toArray, List.getElem_cons_zero, List.getElem_cons_succ, List.setIfInBounds_toArray, List.set_cons_zero, List.set_cons_succ]
        refine wpAnyH_done (by kernel_rfl) ?_ _
        refine NoPanic.normal ?_
        obtain ⟨y0, y1, y2⟩ := blk_ce3 HFB.out
        have HXF := Lib.hid (HXB2.out.below HFW.out HXB.out.lt)
        obtain ⟨x0, x1, x2⟩ := blk_ce3 HXF.out
        obtain ⟨f0, f1, f2⟩ := blk_fr3 HXF.out
        have hk9 : k ≤ 1000 := by omega
        clear hk
        obtain ⟨wg, hwg⟩ : ∃ wg, ((wf.setCell ⟨w.heap.size, 0, none⟩ (.slice A n c)).setCell ⟨w.heap.size, 1, none⟩ (.int .i64 (t.1 : Int))).setCell ⟨w.heap.size, 2, none⟩ (.bool (!t.2)) = wg := ⟨_, rfl⟩
        have HOG := Lib.hid (show wg.ownsRow (w.heap.size + 2) 2 1 _ k (ints (vlQ wd l s k)) from by rw [← hwg]; exact ownk_keep HOW.out fun gg hb hlt => (heap_put3 wf w.heap.size gg (by omega) _ _ _).trans (HFW.out.block gg hlt))
        have HOGS := Lib.hid (show w.heap.size + 2 ≤ wg.heap.size from by rw [← hwg]; have := HSZ.out; have := HFW.out.size; simp; omega)
        have HBG := Lib.hid (show Below w.heap.size w wg from by rw [← hwg]; exact below_put3 (to_ HBE.out HFW.out) _ (Nat.le_refl _) _ _ _)
        have HXG := Lib.hid (show Blk wg w.heap.size 42 #[.slice A n c, .int .i64 (t.1 : Int), .bool (!t.2)] from by rw [← hwg]; exact blk_put3 HXF.out _ _ _)
        have HRG := Lib.hid (show Blk wg (w.heap.size + 1) 42 #[.slice none 0 0, .int .i64 0, .bool false] from by rw [← hwg]; exact blk_away3 (HRB.out.below HFW.out HRB.out.lt) _ (by omega) _ _ _)
        go_wp2_with (at_builtin; go_loud (refine wpList_append_own _ rfl _ _ 135 rfl (w.heap.size + 2) 2 i0 (.int .i64 0) 1 8 Tryz.underlying135 hi hz0 hz1 hz2 rfl (by decide) _ _ _ rfl (ownk_keep HOG.out fun gg hb hlt => Below.heap_alloc _ _ _ hlt) ⟨wg.heap.size, 0, none⟩ 1 1 [.int .i64 z] rfl rfl (fun j u hu => by rw [add_plain, Nat.zero_add]; exact ((Blk.new wg 2 #[.int .i64 z]).cell j).trans (by simpa using hu)) (by simp [Value.oneCell']) (by unfold maxLen; omega) (by omega) (by have := HOGS.out; simp; omega) ?_; intro v' w4 h2 h3 h4; clear h4; have H2 := Lib.hid h2; have H3 := Lib.hid h3; clear h2 h3))
        clear hwg x0 x1 x2 f0 f1 f2 y0 y1 y2
        go_roundw
        case rel =>
          have hb4 : Below w.heap.size w w4 := (to_ HBG.out (alloc_ _ _)).grown H3.out (to_ HBG.out (alloc_ _ _)).size fun r e => by have := (HOG.out.lt r e).1; omega
          have hne : ∀ g, g < w.heap.size + 2 → w4.heap[g]? = wg.heap[g]? := fun g hg => (H3.out.block g (by have := HOGS.out; simp; omega) (fun e => by have := (HOG.out.lt g e.symm).1; omega)).trans (Below.heap_alloc _ _ _ (by have := HOGS.out; omega))
          refine ⟨k + 1, by omega, by go_num, ?_, (hne _ (by omega)).trans HRG.out, ?_, hb4, Lib.hid (by have := HOGS.out; have := H3.out.size; simp at this; omega)⟩
          · rw [HT.out]; exact (hne _ (by omega)).trans HXG.out
          · rw [HVN.out, ← ints_app1]; exact H2.out
        case measure => simp [intOf]; omega
      · go_simp
        refine hK.out _ _ (HSS.out _ (alloc_ _ _).drew) ?_
        clear hK K hHeld
        intro hHeld
        try simp only [Act.put, List.getElem_toArray, List.getElem_cons_zero, List.getElem_cons_succ, List.setIfInBounds_toArray, List.set_cons_zero, List.set_cons_succ]
        refine wpAnyH_ready (rs := [5]) (by kernel_rfl) (by simp) ?_
        refine AllReadyH.cons rfl (fun K hK => ?_) AllReadyH.nil
        go_simp
        refine (HNK.out _ (to_ HBE.out (alloc_ _ _)).drew).mono ?_
        rintro e w2 ⟨rfl, b2⟩
        have hb2 : Below (wr.heap.size + 1) (wr.alloc (.cells #[.slice none 0 0, .int .i64 0, .bool false] 42)) w2 := by have this : Below (wr.alloc (.cells #[.slice none 0 0, .int .i64 0, .bool false] 42)).heap.size (wr.alloc (.cells #[.slice none 0 0, .int .i64 0, .bool false] 42)) w2 := (Below.refl _ (wr.alloc (.cells #[.slice none 0 0, .int .i64 0, .bool false] 42))).drew.trans b2; rwa [World.size_alloc] at this
        have hzb : Blk w2 wr.heap.size 42 #[.slice none 0 0, .int .i64 0, .bool false] := (Blk.new wr 42 #[.slice none 0 0, .int .i64 0, .bool false]).below hb2 (by omega)
        have B2 := Lib.hid (show Below wr.heap.size wr w2 from (alloc_ _ _).trans (hb2.mono (by omega)))
        have HZB := Lib.hid hzb
        clear b2 hb2 hzb
        try go_wp2_with fail
        refine hK.out _ _ (HSS.out _ B2.out) ?_
        clear hK K hHeld
        intro hHeld
        try simp only [Act.put, List.getElem_toArray, List.getElem_cons_zero, List.getElem_cons_succ, List.setIfInBounds_toArray, List.set_cons_zero, List.set_cons_succ]
        refine wpAnyH_take (i := 6) rfl (by kernel_rfl) (by kernel_rfl) (by kernel_rfl) (fun _ _ _ h => h) (Or.inl ⟨by rfl, by intro W hSW; (try dsimp only at hSW); go_simp; try (with_reducible rfl)⟩) hHeld ?_
        try simp only [Act.put, List.getElem_toArray, List.getElem_cons_zero, List.getElem_cons_succ, List.setIfInBounds_toArray, List.set_cons_zero, List.set_cons_succ]
        refine wpAnyH_take (i := 7) rfl (by kernel_rfl) (by kernel_rfl) (by kernel_rfl) (fun _ _ _ h => h) (Or.inl ⟨by rfl, by intro W hSW; (try dsimp only at hSW); go_simp; try (with_reducible rfl)⟩) hHeld ?_
        try simp only [Act.put, List.getElem_toArray, List.getElem_cons_zero, List.getElem_cons_succ, List.setIfInBounds_toArray, List.set_cons_zero, List.set_cons_succ]
        refine wpAnyH_take (i := 8) rfl (by kernel_rfl) (by kernel_rfl) (by kernel_rfl) (fun _ _ _ h => h) (Or.inl ⟨by rfl, by intro W hSW; (try dsimp only at hSW); go_simp; try (with_reducible rfl)⟩) hHeld ?_
        try simp only [Act.put, List.getElem_toArray, List.getElem_cons_zero, List.getElem_cons_succ, List.setIfInBounds_toArray, List.set_cons_zero, List.set_cons_succ]
        clear x0 x1 x2 f0 f1 f2 hwk
        obtain ⟨x0, x1, x2⟩ := blk_ce3 HZB.out
        obtain ⟨f0, f1, f2⟩ := blk_fr3 HZB.out
        refine wpAnyH_ready (rs := [10]) (by kernel_rfl) (by simp) ?_
        refine AllReadyH.cons rfl (fun K hK => ?_) AllReadyH.nil
        go_simp
        obtain ⟨wf, hwf⟩ : ∃ wf, (((w2).setCell ⟨wr.heap.size, 0, none⟩ (.slice A n c)).setCell ⟨wr.heap.size, 1, none⟩ (.int .i64 (t.1 : Int))).setCell ⟨wr.heap.size, 2, none⟩ (.bool (!t.2)) = wf := ⟨_, rfl⟩
        rw [hwf]
        have HFW := Lib.hid (show Below wr.heap.size wr wf from by rw [← hwf]; exact below_put3 B2.out _ (Nat.le_refl _) _ _ _)
        have HFB := Lib.hid (show Blk wf wr.heap.size 42 #[.slice A n c, .int .i64 (t.1 : Int), .bool (!t.2)] from by rw [← hwf]; exact blk_put3 HZB.out _ _ _)
        clear hwf x0 x1 x2 f0 f1 f2
        refine hK.out _ _ (HSS.out _ HFW.out) ?_
        clear hK K hHeld
        intro hHeld
        try simp only [Act.put, List.getElem_toArray, List.getElem_cons_zero, List.getElem_cons_succ, List.setIfInBounds_toArray, List.set_cons_zero, List.set_cons_succ]
        refine wpAnyH_take (i := 11) rfl (by kernel_rfl) (by kernel_rfl) (by kernel_rfl) (fun _ _ _ h => h) (Or.inl ⟨by rfl, by intro W hSW; (try dsimp only at hSW); go_simp; try (with_reducible rfl)⟩) hHeld ?_
        try simp only [Act.put, List.getElem_toArray, List.getElem_cons_zero, List.getElem_cons_succ, List.setIfInBounds_toArray, List.set_cons_zero, List.set_cons_succ]
        refine wpAnyH_done (by kernel_rfl) ?_ _
        refine NoPanic.normal ?_
        obtain ⟨y0, y1, y2⟩ := blk_ce3 HFB.out
        have HXF := Lib.hid (HXB2.out.below HFW.out HXB.out.lt)
        obtain ⟨x0, x1, x2⟩ := blk_ce3 HXF.out
        obtain ⟨f0, f1, f2⟩ := blk_fr3 HXF.out
        have hk9 : k ≤ 1000 := by omega
        clear hk
        obtain ⟨wg, hwg⟩ : ∃ wg, ((wf.setCell ⟨w.heap.size, 0, none⟩ (.slice A n c)).setCell ⟨w.heap.size, 1, none⟩ (.int .i64 (t.1 : Int))).setCell ⟨w.heap.size, 2, none⟩ (.bool (!t.2)) = wg := ⟨_, rfl⟩
        have HOG := Lib.hid (show wg.ownsRow (w.heap.size + 2) 2 1 _ k (ints (vlQ wd l s k)) from by rw [← hwg]; exact ownk_keep HOW.out fun gg hb hlt => (heap_put3 wf w.heap.size gg (by omega) _ _ _).trans (HFW.out.block gg hlt))
        have HOGS := Lib.hid (show w.heap.size + 2 ≤ wg.heap.size from by rw [← hwg]; have := HSZ.out; have := HFW.out.size; simp; omega)
        have HBG := Lib.hid (show Below w.heap.size w wg from by rw [← hwg]; exact below_put3 (to_ HBE.out HFW.out) _ (Nat.le_refl _) _ _ _)
        have HXG := Lib.hid (show Blk wg w.heap.size 42 #[.slice A n c, .int .i64 (t.1 : Int), .bool (!t.2)] from by rw [← hwg]; exact blk_put3 HXF.out _ _ _)
        have HRG := Lib.hid (show Blk wg (w.heap.size + 1) 42 #[.slice none 0 0, .int .i64 0, .bool false] from by rw [← hwg]; exact blk_away3 (HRB.out.below HFW.out HRB.out.lt) _ (by omega) _ _ _)
        go_wp2_with (at_builtin; go_loud (refine wpList_append_own _ rfl _ _ 135 rfl (w.heap.size + 2) 2 i0 (.int .i64 0) 1 8 Tryz.underlying135 hi hz0 hz1 hz2 rfl (by decide) _ _ _ rfl (ownk_keep HOG.out fun gg hb hlt => Below.heap_alloc _ _ _ hlt) ⟨wg.heap.size, 0, none⟩ 1 1 [.int .i64 z] rfl rfl (fun j u hu => by rw [add_plain, Nat.zero_add]; exact ((Blk.new wg 2 #[.int .i64 z]).cell j).trans (by simpa using hu)) (by simp [Value.oneCell']) (by unfold maxLen; omega) (by omega) (by have := HOGS.out; simp; omega) ?_; intro v' w4 h2 h3 h4; clear h4; have H2 := Lib.hid h2; have H3 := Lib.hid h3; clear h2 h3))
        clear hwg x0 x1 x2 f0 f1 f2 y0 y1 y2
        go_roundw
        case rel =>
          have hb4 : Below w.heap.size w w4 := (to_ HBG.out (alloc_ _ _)).grown H3.out (to_ HBG.out (alloc_ _ _)).size fun r e => by have := (HOG.out.lt r e).1; omega
          have hne : ∀ g, g < w.heap.size + 2 → w4.heap[g]? = wg.heap[g]? := fun g hg => (H3.out.block g (by have := HOGS.out; simp; omega) (fun e => by have := (HOG.out.lt g e.symm).1; omega)).trans (Below.heap_alloc _ _ _ (by have := HOGS.out; omega))
          refine ⟨k + 1, by omega, by go_num, ?_, (hne _ (by omega)).trans HRG.out, ?_, hb4, Lib.hid (by have := HOGS.out; have := H3.out.size; simp at this; omega)⟩
          · rw [HT.out]; exact (hne _ (by omega)).trans HXG.out
          · rw [HVN.out, ← ints_app1]; exact H2.out
        case measure => simp [intOf]; omega
    · obtain rfl : k = M := by omega
      have HXB2 := Lib.hid (show Blk wr w.heap.size 42 #[.slice A n c, .int .i64 ((stQ wd l s k).1 : Int), .bool (!(stQ wd l s k).2)] from hxb)
      obtain ⟨x0, x1, x2⟩ := blk_ce3 HXB2.out
      obtain ⟨y0, y1, y2⟩ := blk_ce3 HRB.out
      obtain ⟨f0, f1, f2⟩ := blk_fr3 HRB.out
      obtain ⟨A2, c2, rfl⟩ := own_formW hown
      obtain ⟨t, ht⟩ : ∃ t, stQ wd l s k = t := ⟨_, rfl⟩
      have HS5 := Lib.hid ht
      rw [ht] at x1 x2
      clear hxb hrb hown hbel ht HXB2
      go_wp2_with fail
      refine bodyPost_ret (v := .tuple #[.agg #[.slice A n c, .int .i64 (t.1 : Int), .bool (!t.2)], .slice A2 k c2]) (by simp [results, Tryz.results163, go_sem, y0, y1, y2]) rfl ?_
      have hown2 : ((((wr.setCell ⟨w.heap.size + 1, 0, none⟩ (.slice A n c)).setCell ⟨w.heap.size + 1, 1, none⟩ (.int .i64 (t.1 : Int))).setCell ⟨w.heap.size + 1, 2, none⟩ (.bool (!t.2)))).ownsRow (w.heap.size + 2) 2 1 (.slice A2 k c2) k (ints (vlQ wd l s k)) := ownk_keep HOW.out fun gg hb hlt => heap_put3 wr (w.heap.size + 1) gg (by omega) _ _ _
      refine ⟨A2, c2, by rw [HS5.out], SlV.of_own hown2, below_put3 HBE.out _ (by omega) _ _ _, fun ad e => by subst e; have := (HOW.out.lt ad.block rfl).1; omega⟩
end Go.Proofs.YtbknmapkdjmcjaaGreatDoor.By

namespace Go.Proofs.YtbknmapkdjmcjaaGreatDoor.By
open Go.RowKit
open Mem Gm Rf
set_option linter.unusedSimpArgs false
set_option linter.unusedVariables false

theorem pg_bad {l : List UInt8} {s : Std} (h : s.2 = false) (k : Int) : (pgS l s k).2 = false ∧ rvS l s k = 0 := by
  unfold pgS rvS readV fitsB
  rw [h]; exact ⟨rfl, rfl⟩
theorem rd_bad {l : List UInt8} {s : Std} {k : Int} (h : (pgS l s k).2 = false) : rvS l s k = 0 := by
  unfold pgS at h
  unfold rvS readV
  rw [if_neg (by rw [show fitsB l s.1 s.2 k = false from h]; decide)]
theorem stN_bad {l : List UInt8} {s : Std} (h : s.2 = false) : ∀ k, (stN l s k).2 = false
  | 0 => h
  | k + 1 => (pg_bad (stN_bad h k) 1).1
theorem tk_bad {l : List UInt8} {s : Std} (h : (t3 l s).2 = false) : tkW l s = 0 := rd_bad (l := l) (s := stN l s 2) (k := 1) h
theorem rfs_bad {l : List UInt8} : ∀ (n : Nat) (s : Std), s.2 = false → ∃ ys, (rfs l n s).1 = some ys ∧ (rfs l n s).2.2 = false
  | 0, s, h => ⟨[], rfl, h⟩
  | n + 1, s, h => by
    have h3 : (t3 l s).2 = false := stN_bad h 3
    obtain ⟨ys, h1, h2⟩ := rfs_bad n (t3 l s) h3
    refine ⟨tkX l s :: ys, ?_, ?_⟩
    · rw [rfs, if_neg (by rw [tk_bad h3]; decide), h1]; rfl
    · rw [rfs, if_neg (by rw [tk_bad h3]; decide)]; exact h2
/-- What is wrong of references that were read, and what they are. -/
def rrE (o : Option (List Rl) × Std) : Int := match o.1 with | none => 3 | some _ => if o.2.2 = false then 5 else 0
def rrL (o : Option (List Rl) × Std) : List Rl := if rrE o = 0 then o.1.getD [] else []
def RrAns (o : Option (List Rl) × Std) (w : World) (A : Option Addr) (n c : Nat) (e : Ending) (w' : World) : Prop :=
  ∃ (st : Std) (A2 : Option Addr) (c2 : Nat), e = .returned (.tuple #[.agg (rdC A n c st), .slice A2 (rrL o).length c2, .int .i64 (rrE o)]) ∧ RlL w' A2 (rrL o).length c2 (rrL o) ∧ (rrE o = 0 → st = o.2) ∧ (∀ ad, A2 = some ad → w.heap.size ≤ ad.block) ∧ Below w.heap.size w w'
theorem vl3 (l : List UInt8) (s : Std) : vlN l s 3 = [rvS l s 1, rvS l (stN l s 1) 1, tkW l s] := rfl
theorem rdC_eq (A : Option Addr) (n c : Nat) (s : Std) : rdC A n c s = #[.slice A n c, .int .i64 (s.1 : Int), .bool (!s.2)] := rfl

set_option maxRecDepth 100000 in
set_option maxHeartbeats 8000000 in
theorem rgetR_any (w : World) (A : Option Addr) (n c : Nat) (l : List UInt8) (s : Std) (hn : l.length = n) (hl : n ≤ 1000000) (hs : s.1 ≤ n) (hv : SlV w w.heap.size (.slice A n c) (u8s l)) :
    Calls Tryz.prog 88 #[.agg (rdC A n c s)] w (RrAns (rfs l (rvS l s 1).toNat (pgS l s 1)) w A n c) := by
  obtain ⟨i0, hi, hz0, hz1, hz2⟩ := info_parts infoRl
  obtain ⟨N, hN⟩ : ∃ N, (rvS l s 1).toNat = N := ⟨_, rfl⟩
  have h2 := num_one l s
  have hNI : rvS l s 1 = (N : Int) := by omega
  have hNB : N ≤ 255 := by omega
  obtain ⟨s0, hs0⟩ : ∃ s0, pgS l s 1 = s0 := ⟨_, rfl⟩
  have HL0 := Lib.hid (show s0.1 ≤ n by rw [← hs0, ← hn]; exact pgS_le (by omega) 1)
  have HNUM := Lib.hid (show ∀ W, Below w.heap.size w W → Calls Tryz.prog 86 #[.agg #[.slice A n c, .int .i64 (s.1 : Int), .bool (!s.2)], .int .i64 1, .bool false] W fun e w' => e = .returned (.tuple #[.agg #[.slice A n c, .int .i64 (s0.1 : Int), .bool (!s0.2)], .int .i64 (N : Int)]) ∧ Below W.heap.size W w' from fun W hb => by
    have := rnum_any W w.heap.size A c l s.1 s.2 false 1 (by omega) (by omega) (by rw [hn]; exact hv.below hb)
    rw [hn] at this
    refine this.mono fun e w' hh => ?_
    obtain ⟨h1, h2⟩ := hh
    refine ⟨?_, h2⟩
    rw [h1, ← hs0, ← hNI]; rfl)
  have HNS := Lib.hid (fun W (hb : Below w.heap.size w W) st (hst : st.1 ≤ n) => nums_any 3 (by decide) (W.alloc (.cells #[.int .i64 1, .int .i64 1, .int .i64 1] 3)) A n c W.heap.size l st hn hl hst ((hv.below (to_ hb (alloc_ _ _))).more (to_ hb (alloc_ _ _)).size) (by simp) (fun k hk => by
    rw [(Blk.new W _ _).cell]
    match k, hk with
    | 0, _ => rfl
    | 1, _ => rfl
    | 2, _ => rfl))
  rw [hN, hs0]
  obtain ⟨o, ho⟩ : ∃ o, rfs l N s0 = o := ⟨_, rfl⟩
  rw [ho]
  have HO := Lib.hid ho
  have HNL := Lib.hid hn
  obtain ⟨W0, hW0⟩ : ∃ W0, (w.alloc (.cells #[.slice A n c, .int .i64 (s.1 : Int), .bool (!s.2)] 42)).alloc (.cells #[.slice none 0 0, .int .i64 0, .bool false] 42) = W0 := ⟨_, rfl⟩
  have HS0 := Lib.hid (show Blk W0 w.heap.size 42 #[.slice A n c, .int .i64 (s.1 : Int), .bool (!s.2)] ∧ Blk W0 (w.heap.size + 1) 42 #[.slice none 0 0, .int .i64 0, .bool false] ∧ Below w.heap.size w W0 from by
    rw [← hW0]
    refine ⟨(Blk.new w _ _).alloc _, ?_, to_ (alloc_ _ _) (alloc_ _ _)⟩
    have := Blk.new (w.alloc (.cells #[.slice A n c, .int .i64 (s.1 : Int), .bool (!s.2)] 42)) 42 #[.slice none 0 0, .int .i64 0, .bool false]
    rwa [World.size_alloc] at this)
  clear hv hN h2 hNI hs0 hs ho
  obtain ⟨x0, x1, x2⟩ := blk_ce3 HS0.out.1
  unfold rdC
  go_enter Tryz.func88, Tryz.ntmps88
  go_wp2_with fail
  clear hW0 x0 x1 x2
  refine (HNUM.out W0 HS0.out.2.2).mono ?_
  rintro e w1 ⟨rfl, b1⟩
  have HR1 := Lib.hid (HS0.out.1.below b1 HS0.out.1.lt)
  have HT1 := Lib.hid (HS0.out.2.1.below b1 HS0.out.2.1.lt)
  have HB1 := Lib.hid (to_ HS0.out.2.2 b1)
  obtain ⟨x0, x1, x2⟩ := blk_ce3 HR1.out
  obtain ⟨f0, f1, f2⟩ := blk_fr3 HR1.out
  clear b1
  obtain ⟨wg, hwg⟩ : ∃ wg, ((w1.setCell ⟨w.heap.size, 0, none⟩ (.slice A n c)).setCell ⟨w.heap.size, 1, none⟩ (.int .i64 (s0.1 : Int))).setCell ⟨w.heap.size, 2, none⟩ (.bool (!s0.2)) = wg := ⟨_, rfl⟩
  have HRG := Lib.hid (show Blk wg w.heap.size 42 (rdC A n c s0) from by rw [← hwg]; exact blk_put3 HR1.out _ _ _)
  have HTG := Lib.hid (show Blk wg (w.heap.size + 1) 42 #[.slice none 0 0, .int .i64 0, .bool false] from by rw [← hwg]; exact blk_away3 HT1.out _ (by omega) _ _ _)
  have HBG := Lib.hid (show Below w.heap.size w wg from by rw [← hwg]; exact below_put3 HB1.out _ (Nat.le_refl _) _ _ _)
  go_wp2_with fail
  clear hwg x0 x1 x2 f0 f1 f2
  go_loopw [6, 7] (fun v i wr => ∃ (q : Nat) (xs : List Rl) (st : Std), q ≤ N ∧ i = .int .i64 (q : Int) ∧ (Blk wr w.heap.size 42 (rdC A n c st) ∧ Blk wr (w.heap.size + 1) 42 #[.slice none 0 0, .int .i64 0, .bool false]) ∧ wr.ownsRow (w.heap.size + 2) 82 3 v q (flRl xs) ∧ Below w.heap.size w wr ∧ Hid (w.heap.size + 2 ≤ wr.heap.size) ∧ Hid (xs.length = q) ∧ Hid (st.1 ≤ n) ∧ Hid (o.1 = (rfs l (N - q) st).1.map (xs ++ ·) ∧ o.2 = (rfs l (N - q) st).2)) (fun _ i _ => N - (intOf i).toNat)
  case atStart => exact ⟨0, [], s0, Nat.zero_le _, rfl, ⟨HRG.out, HTG.out⟩, World.ownsRow_nil _ _ _ _, HBG.out, Lib.hid (by have := HTG.out.lt; omega), Lib.hid rfl, HL0, Lib.hid ⟨by rw [← HO.out]; simp, by rw [← HO.out]; rfl⟩⟩
  case round =>
    obtain ⟨q, xs, st, hq, rfl, ⟨hrb, htb⟩, hown, hbel, HSZ, HXL, HST, HINV⟩ := hrel
    have HR := Lib.hid hrb
    have HT := Lib.hid htb
    have HOW := Lib.hid hown
    have HBE := Lib.hid hbel
    have HR2 := Lib.hid (show Blk wr w.heap.size 42 #[.slice A n c, .int .i64 (st.1 : Int), .bool (!st.2)] from hrb)
    clear hrb htb hown hbel
    by_cases hlt : q < N
    · have hqI : (q : Int) < (N : Int) := by omega
      have hsub : N - q = (N - (q + 1)) + 1 := by omega
      have HN3 := Lib.hid (HNS.out wr HBE.out st HST.out)
      obtain ⟨x0, x1, x2⟩ := blk_ce3 HR2.out
      obtain ⟨t, ht⟩ : ∃ t, stN l st 3 = t := ⟨_, rfl⟩
      have HTT := Lib.hid ht
      have HTN := Lib.hid (show t.1 ≤ n by rw [← ht, ← HNL.out]; exact stN_le (by rw [HNL.out]; exact HST.out) 3)
      unfold NmAns rdC at HN3
      rw [vl3, ht] at HN3
      have HINV1 := Lib.hid (show o.1 = (if 1 < tkW l st then none else (rfs l (N - (q + 1)) t).1.map ((xs ++ [tkX l st]) ++ ·)) ∧ o.2 = (if 1 < tkW l st then t else (rfs l (N - (q + 1)) t).2) from by
        rw [HINV.out.1, HINV.out.2, hsub, rfs, show t3 l st = t from ht]
        by_cases h1 : 1 < tkW l st
        · rw [if_pos h1, if_pos h1, if_pos h1]; exact ⟨rfl, rfl⟩
        · rw [if_neg h1, if_neg h1, if_neg h1]
          refine ⟨?_, rfl⟩
          rw [Option.map_map]
          congr 1
          funext y
          simp)
      have HTB := Lib.hid (show t.2 = false → tkW l st = 0 from fun h => tk_bad (show (t3 l st).2 = false by rw [show t3 l st = t from ht]; exact h))
      unfold tkX at HINV1
      obtain ⟨z, hz⟩ : ∃ z, tkW l st = z := ⟨_, rfl⟩
      rw [hz] at HINV1 HTB HN3
      generalize rvS l st 1 = v0 at HINV1 HN3
      generalize rvS l (stN l st 1) 1 = v1 at HINV1 HN3
      clear ht hz hsub HINV
      obtain ⟨nb, hnb⟩ : ∃ b, (!t.2) = b := ⟨_, rfl⟩
      rw [hnb] at HN3
      have HRC := Lib.hid (show rdC A n c t = #[.slice A n c, .int .i64 (t.1 : Int), .bool nb] from by rw [rdC_eq, hnb])
      have HNB := Lib.hid hnb
      clear hnb
      go_wp2_with fail
      clear x0 x1 x2
      refine HN3.out.mono ?_
      rintro e w2 ⟨A2, c2, rfl, h2, b2, ha2⟩
      have hb2 : Below wr.heap.size wr w2 := to_ (alloc_ _ _) b2
      have HB2 := Lib.hid hb2
      have HR3 := Lib.hid (HR2.out.below hb2 HR2.out.lt)
      have HT3 := Lib.hid (HT.out.below hb2 HT.out.lt)
      have HSL := Lib.hid h2
      have HA2 := Lib.hid (show ∀ ad, A2 = some ad → wr.heap.size ≤ ad.block from fun ad e => Nat.le_trans (by simp) (ha2 ad e))
      obtain ⟨x0, x1, x2⟩ := blk_ce3 HR3.out
      obtain ⟨f0, f1, f2⟩ := blk_fr3 HR3.out
      have hlt2 : w.heap.size < w2.heap.size := HR3.out.lt
      clear h2 b2 hb2 ha2
      obtain ⟨wg, hwg⟩ : ∃ wg, ((w2.setCell ⟨w.heap.size, 0, none⟩ (.slice A n c)).setCell ⟨w.heap.size, 1, none⟩ (.int .i64 (t.1 : Int))).setCell ⟨w.heap.size, 2, none⟩ (.bool nb) = wg := ⟨_, rfl⟩
      obtain ⟨wf, hwf⟩ : ∃ wf, wg.alloc (.cells #[.slice A n c, .int .i64 (t.1 : Int), .bool nb] 42) = wf := ⟨_, rfl⟩
      have hsg : wg.heap.size = w2.heap.size := by rw [← hwg]; simp [World.setCell]
      have HRG2 := Lib.hid (show Blk wf w.heap.size 42 (rdC A n c t) from by rw [HRC.out, ← hwf, ← hwg]; exact (blk_put3 HR3.out _ _ _).alloc _)
      have HTG2 := Lib.hid (show Blk wf (w.heap.size + 1) 42 #[.slice none 0 0, .int .i64 0, .bool false] from by rw [← hwf, ← hwg]; exact (blk_away3 HT3.out _ (by omega) _ _ _).alloc _)
      have hkeep : ∀ gg, gg ≠ w.heap.size → gg < w2.heap.size → wf.heap[gg]? = w2.heap[gg]? := fun gg hne hlt => by
        rw [← hwf]
        refine (Below.heap_alloc _ _ _ (by omega)).trans ?_
        rw [← hwg]; exact heap_put3 w2 w.heap.size gg hne _ _ _
      have HKP := Lib.hid hkeep
      have HBG2 := Lib.hid (show Below w.heap.size w wf from by rw [← hwf, ← hwg]; exact to_ (below_put3 (to_ HBE.out HB2.out) _ (Nat.le_refl _) _ _ _) (alloc_ _ _))
      have HNE := Lib.hid (show ∀ r, Value.ownBlock u6 = some r → ∀ ad : Addr, A2 = some ad → r ≠ ad.block from fun r e ad ea => by have := (HOW.out.lt r e).2; have := HA2.out ad ea; omega)
      have HOG2 := Lib.hid (show wf.ownsRow (w.heap.size + 2) 82 3 _ q (flRl xs) from ownk_keep HOW.out fun gg hb hlt => (HKP.out gg (by omega) (by have := HB2.out.size; omega)).trans (HB2.out.block gg hlt))
      have HSG2 := Lib.hid (show w.heap.size + 2 ≤ wf.heap.size from by have := HTG2.out.lt; omega)
      obtain ⟨ad, hA2, hc⟩ : ∃ ad, A2 = some ad ∧ ∀ j, j < 3 → w2.cell? (ad.add j) = some (.int .i64 (el [v0, v1, z] j)) := by
        rcases ints_row (A := A2) (c := c2) (l := [v0, v1, z]) HSL.out with ⟨e, _⟩ | ⟨ad, e, _, hc⟩
        · cases e
        · exact ⟨ad, e, hc⟩
      have hadB : w.heap.size < ad.block := by have := HA2.out ad hA2; have := HSZ.out; omega
      have hcf : ∀ j, j < 3 → wf.cell? (ad.add j) = some (.int .i64 (el [v0, v1, z] j)) := fun j hj => by
        rw [World.cell?_of_block (HKP.out (ad.add j).block (by rw [add_block]; omega) (by have := World.block_lt_of_cell? w2 _ (hc j hj); exact this))]
        exact hc j hj
      have k0 : wf.cell? ad = some (.int .i64 v0) := by have := hcf 0 (by decide); rwa [show ad.add 0 = ad from by unfold Addr.add; simp] at this
      have k1 : wf.cell? ⟨ad.block, ad.off + 1, none⟩ = some (.int .i64 v1) := by have := hcf 1 (by decide); rwa [add_field _ 1 (by decide)] at this
      have k2 : wf.cell? ⟨ad.block, ad.off + 2, none⟩ = some (.int .i64 z) := by have := hcf 2 (by decide); rwa [add_field _ 2 (by decide)] at this
      have k1' : wf.cell? (ad.add 1) = some (.int .i64 v1) := hcf 1 (by decide)
      have k2' : wf.cell? (ad.add 2) = some (.int .i64 z) := hcf 2 (by decide)
      have k0' : wf.cell? (ad.add 0) = some (.int .i64 v0) := hcf 0 (by decide)
      subst hA2
      clear hkeep hc hcf
      have HRF := Lib.hid (show Blk wf w.heap.size 42 #[.slice A n c, .int .i64 (t.1 : Int), .bool nb] from by rw [← HRC.out]; exact HRG2.out)
      obtain ⟨y0, y1, y2⟩ := blk_ce3 HRF.out
      obtain ⟨r0, r1, r2⟩ := blk_ce3 HTG2.out
      obtain ⟨q0, q1, q2⟩ := blk_fr3 HTG2.out
      have HPT := Lib.hid (show ∀ b, Blk (((wf.setCell ⟨w.heap.size + 1, 0, none⟩ (.slice A n c)).setCell ⟨w.heap.size + 1, 1, none⟩ (.int .i64 (t.1 : Int))).setCell ⟨w.heap.size + 1, 2, none⟩ (.bool b)) (w.heap.size + 1) 42 #[.slice A n c, .int .i64 (t.1 : Int), .bool b] from fun b => blk_put3 HTG2.out _ _ _)
      have HPB := Lib.hid (show ∀ b, Below w.heap.size w (((wf.setCell ⟨w.heap.size + 1, 0, none⟩ (.slice A n c)).setCell ⟨w.heap.size + 1, 1, none⟩ (.int .i64 (t.1 : Int))).setCell ⟨w.heap.size + 1, 2, none⟩ (.bool b)) from fun b => below_put3 HBG2.out _ (by omega) _ _ _)
      cases nb with
      | true =>
        have HBT := Lib.hid (show t.2 = false from by have := HNB.out; simpa using this)
        have hz0 : z = 0 := HTB.out HBT.out
        have HE := Lib.hid (show rrE o = 5 from by
          unfold rrE
          rw [HINV1.out.1, HINV1.out.2, hz0, if_neg (show ¬ (1 : Int) < 0 by decide), if_neg (show ¬ (1 : Int) < 0 by decide)]
          obtain ⟨ys, h1, h2⟩ := rfs_bad (l := l) (N - (q + 1)) t HBT.out
          rw [h1]
          show (if (rfs l (N - (q + 1)) t).2.2 = false then (5 : Int) else 0) = 5
          rw [if_pos h2])
        have HEL := Lib.hid (show rrL o = [] from by unfold rrL; rw [HE.out]; rfl)
        clear hz0 k0 k1 k2 k0' k1' k2'
        go_wp2_with fail
        obtain ⟨z0, z1, z2⟩ := blk_ce3 (HPT.out true)
        refine bodyPost_ret (v := .tuple #[.agg #[.slice A n c, .int .i64 (t.1 : Int), .bool true], .slice none 0 0, .int .i64 5]) (by simp [results, Tryz.results88, go_sem, z0, z1, z2]) rfl ?_
        exact ⟨t, none, 0, by rw [HE.out, HEL.out, HRC.out]; rfl, by rw [HEL.out]; exact Wd.nil, fun e => by rw [HE.out] at e; exact absurd e (by decide), (fun ad e => nomatch e), HPB.out true⟩
      | false =>
        have HBT := Lib.hid (show t.2 = true from by have := HNB.out; simpa using this)
        by_cases h1 : 1 < z
        · have HE := Lib.hid (show rrE o = 3 from by unfold rrE; rw [HINV1.out.1, if_pos h1])
          have HEL := Lib.hid (show rrL o = [] from by unfold rrL; rw [HE.out]; rfl)
          go_wp2_with fail
          obtain ⟨z0, z1, z2⟩ := blk_ce3 (HPT.out false)
          refine bodyPost_ret (v := .tuple #[.agg #[.slice A n c, .int .i64 (t.1 : Int), .bool false], .slice none 0 0, .int .i64 3]) (by simp [results, Tryz.results88, go_sem, z0, z1, z2]) rfl ?_
          exact ⟨t, none, 0, by rw [HE.out, HEL.out, HRC.out]; rfl, by rw [HEL.out]; exact Wd.nil, fun e => by rw [HE.out] at e; exact absurd e (by decide), (fun ad e => nomatch e), HPB.out false⟩
        · have HINV2 := Lib.hid (show o.1 = (rfs l (N - (q + 1)) t).1.map ((xs ++ [(v0, v1, z == 1)]) ++ ·) ∧ o.2 = (rfs l (N - (q + 1)) t).2 from by
            have h9 := HINV1.out
            rw [if_neg h1, if_neg h1] at h9; exact h9)
          have HSS := Lib.hid (show ∀ W, Below wf.heap.size wf W → W.cell? ad = some (.int .i64 v0) ∧ W.cell? ⟨ad.block, ad.off + 1, none⟩ = some (.int .i64 v1) ∧ W.cell? ⟨ad.block, ad.off + 2, none⟩ = some (.int .i64 z) from fun W hb => ⟨(hb.cell (World.block_lt_of_cell? _ _ k0)).trans k0, (hb.cell (World.block_lt_of_cell? _ _ k1)).trans k1, (hb.cell (World.block_lt_of_cell? _ _ k2)).trans k2⟩)
          have HWG := Lib.hid hwg
          have HWF := Lib.hid hwf
          obtain ⟨be, hbe⟩ : ∃ be, (z == 1) = be := ⟨_, rfl⟩
          rw [hbe] at HINV2
          go_wp2_with fail
          have hDB : Below wf.heap.size wf wf.drew := drew_below wf
          have HDB := Lib.hid hDB
          have hHeld := HSS.out wf.drew hDB
          clear hDB hwg hwf k0 k1 k2 k0' k1' k2' x0 x1 x2 f0 f1 f2 y0 y1 y2 r0 r1 r2 q0 q1 q2
          refine wp_region_noPanic ?_
          refine wp_region_held_drew (S := fun W => W.cell? ad = some (.int .i64 v0) ∧ W.cell? ⟨ad.block, ad.off + 1, none⟩ = some (.int .i64 v1) ∧ W.cell? ⟨ad.block, ad.off + 2, none⟩ = some (.int .i64 z)) (by kernel_rfl) (hHeld) (fun hHeld => ?_)
          refine wpAnyH_take (i := 0) rfl (by kernel_rfl) (by kernel_rfl) (by kernel_rfl) (fun _ _ _ h => h) (Or.inl ⟨by rfl, by intro W hSW; (try dsimp only at hSW); go_simp; try (with_reducible rfl)⟩) hHeld ?_
          try simp only [Act.put, List.getElem_toArray, List.getElem_cons_zero, List.getElem_cons_succ, List.setIfInBounds_toArray, List.set_cons_zero, List.set_cons_succ]
          refine wpAnyH_take (i := 1) rfl (by kernel_rfl) (by kernel_rfl) (by kernel_rfl) (fun _ _ _ h => h) (Or.inl ⟨by rfl, by intro W hSW; (try dsimp only at hSW); go_simp; try (with_reducible rfl)⟩) hHeld ?_
          try simp only [Act.put, List.getElem_toArray, List.getElem_cons_zero, List.getElem_cons_succ, List.setIfInBounds_toArray, List.set_cons_zero, List.set_cons_succ]
          refine wpAnyH_take (i := 2) rfl (by kernel_rfl) (by kernel_rfl) (by kernel_rfl) (fun _ _ _ h => h) (Or.inl ⟨by rfl, by intro W hSW; (try dsimp only at hSW); go_simp; try (with_reducible rfl)⟩) hHeld ?_
          try simp only [Act.put, List.getElem_toArray, List.getElem_cons_zero, List.getElem_cons_succ, List.setIfInBounds_toArray, List.set_cons_zero, List.set_cons_succ]
          refine wpAnyH_take (i := 3) rfl (by kernel_rfl) (by kernel_rfl) (by kernel_rfl) (fun _ _ _ h => h) (Or.inl ⟨by rfl, by intro W hSW; (try dsimp only at hSW); go_simp; try (with_reducible rfl)⟩) hHeld ?_
          try simp only [Act.put, List.getElem_toArray, List.getElem_cons_zero, List.getElem_cons_succ, List.setIfInBounds_toArray, List.set_cons_zero, List.set_cons_succ]
          refine wpAnyH_take (i := 4) rfl (by kernel_rfl) (by kernel_rfl) (by kernel_rfl) (fun _ _ _ h => h) (Or.inl ⟨by rfl, by intro W hSW; (try dsimp only at hSW); go_simp; try (with_reducible rfl)⟩) hHeld ?_
          try simp only [Act.put, List.getElem_toArray, List.getElem_cons_zero, List.getElem_cons_succ, List.setIfInBounds_toArray, List.set_cons_zero, List.set_cons_succ]
          refine wpAnyH_take (i := 5) rfl (by kernel_rfl) (by kernel_rfl) (by kernel_rfl) (fun _ _ _ h => h) (Or.inl ⟨by rfl, by intro W hSW; (try dsimp only at hSW); go_simp; try (with_reducible rfl)⟩) hHeld ?_
          try simp only [Act.put, List.getElem_toArray, List.getElem_cons_zero, List.getElem_cons_succ, List.setIfInBounds_toArray, List.set_cons_zero, List.set_cons_succ]
          refine wpAnyH_take (i := 6) rfl (by kernel_rfl) (by kernel_rfl) (by kernel_rfl) (fun _ _ _ h => h) (Or.inl ⟨by rfl, by intro W hSW; (try dsimp only at hSW); go_simp; try (with_reducible rfl)⟩) hHeld ?_
          try simp only [Act.put, List.getElem_toArray, List.getElem_cons_zero, List.getElem_cons_succ, List.setIfInBounds_toArray, List.set_cons_zero, List.set_cons_succ]
          refine wpAnyH_take (i := 7) rfl (by kernel_rfl) (by kernel_rfl) (by kernel_rfl) (fun _ _ _ h => h) (Or.inl ⟨by rfl, by intro W hSW; (try dsimp only at hSW); go_simp; try (with_reducible rfl)⟩) hHeld ?_
          try simp only [Act.put, List.getElem_toArray, List.getElem_cons_zero, List.getElem_cons_succ, List.setIfInBounds_toArray, List.set_cons_zero, List.set_cons_succ]
          refine wpAnyH_take (i := 8) rfl (by kernel_rfl) (by kernel_rfl) (by kernel_rfl) (fun _ _ _ h => h) (Or.inl ⟨by rfl, by intro W hSW; (try dsimp only at hSW); go_simp; try (with_reducible rfl)⟩) hHeld ?_
          try simp only [Act.put, List.getElem_toArray, List.getElem_cons_zero, List.getElem_cons_succ, List.setIfInBounds_toArray, List.set_cons_zero, List.set_cons_succ]
          refine wpAnyH_take (i := 9) rfl (by kernel_rfl) (by kernel_rfl) (by kernel_rfl) (fun _ _ _ h => h) (Or.inl ⟨by rfl, by intro W hSW; (try dsimp only at hSW); go_simp; try (with_reducible rfl)⟩) hHeld ?_
          try simp only [Act.put, List.getElem_toArray, List.getElem_cons_zero, List.getElem_cons_succ, List.setIfInBounds_toArray, List.set_cons_zero, List.set_cons_succ]
          refine wpAnyH_take (i := 10) rfl (by kernel_rfl) (by kernel_rfl) (by kernel_rfl) (fun _ _ _ h => h) (Or.inl ⟨by rfl, by intro W hSW; (try dsimp only at hSW); go_simp; try (with_reducible rfl)⟩) hHeld ?_
          try simp only [Act.put, List.getElem_toArray, List.getElem_cons_zero, List.getElem_cons_succ, List.setIfInBounds_toArray, List.set_cons_zero, List.set_cons_succ]
          refine wpAnyH_take (i := 11) rfl (by kernel_rfl) (by kernel_rfl) (by kernel_rfl) (fun _ _ _ h => h) (Or.inl ⟨by rfl, by intro W hSW; (try dsimp only at hSW); go_simp; try (with_reducible rfl)⟩) hHeld ?_
          try simp only [Act.put, List.getElem_toArray, List.getElem_cons_zero, List.getElem_cons_succ, List.setIfInBounds_toArray, List.set_cons_zero, List.set_cons_succ]
          refine wpAnyH_ready (rs := [12]) (by kernel_rfl) (by simp) ?_
          refine AllReadyH.cons rfl (fun K hK => ?_) AllReadyH.nil
          go_simp
          refine hK.out _ _ (HSS.out _ (to_ HDB.out (alloc_ _ _))) ?_
          clear hK K hHeld
          intro hHeld
          try simp only [Act.put, List.getElem_toArray, List.getElem_cons_zero, List.getElem_cons_succ, List.setIfInBounds_toArray, List.set_cons_zero, List.set_cons_succ]
          refine wpAnyH_ready (rs := [13]) (by kernel_rfl) (by simp) ?_
          refine AllReadyH.cons rfl (fun K hK => ?_) AllReadyH.nil
          refine step_append_own rfl _ _ 25 rfl (w.heap.size + 2) 82 i0 (.agg #[.int .i64 0, .int .i64 0, .bool false]) 3 24 Tryz.underlying25 hi hz0 hz1 hz2 rfl (by decide) _ q (flRl xs) rfl (ownk_keep HOG2.out fun gg hb hlt => Below.heap_alloc _ _ _ hlt) ⟨wf.heap.size, 0, none⟩ 1 (encRl (v0, v1, be)) rfl rfl (fun j u hu => by rw [add_plain, Nat.zero_add]; exact ((Blk.new wf.drew 82 #[.int .i64 v0, .int .i64 v1, .bool be]).cell j).trans (by simpa [encRl] using hu)) (by simp [encRl, Value.oneCell']) (by unfold maxLen; omega) (by omega) (by have := HSG2.out; simp; omega) ?_
          intro v' w6 h2 h3
          rw [flRl_snoc] at h2
          have H2 := Lib.hid h2
          have H3 := Lib.hid h3
          have hb6 : Below wf.heap.size wf w6 ∨ True := .inr trivial
          have hS6 : w6.cell? ad = some (.int .i64 v0) ∧ w6.cell? ⟨ad.block, ad.off + 1, none⟩ = some (.int .i64 v1) ∧ w6.cell? ⟨ad.block, ad.off + 2, none⟩ = some (.int .i64 z) := by
            have hx := HSS.out _ (to_ HDB.out (alloc_ wf.drew (.cells #[.int .i64 v0, .int .i64 v1, .bool be] 82)))
            have hlt := World.block_lt_of_cell? _ _ hx.1
            have hne : ∀ r, Value.ownBlock u6 = some r → r ≠ ad.block := fun r e h => HNE.out r e ad rfl h
            have e4 : ∀ p : Addr, p.block = ad.block → w6.cell? p = (wf.drew.alloc (.cells #[.int .i64 v0, .int .i64 v1, .bool be] 82)).cell? p := fun p hp => World.cell?_of_block (h3.block p.block (by rw [hp]; exact hlt) (by rw [hp]; intro e; exact hne _ e.symm rfl))
            exact ⟨(e4 _ rfl).trans hx.1, (e4 ⟨ad.block, ad.off + 1, none⟩ rfl).trans hx.2.1, (e4 ⟨ad.block, ad.off + 2, none⟩ rfl).trans hx.2.2⟩
          clear h2 h3 hb6
          refine hK.out _ _ hS6 ?_
          clear hK K hHeld hS6
          intro hHeld
          try simp only [Act.put, List.getElem_toArray, List.getElem_cons_zero, List.getElem_cons_succ, List.setIfInBounds_toArray, List.set_cons_zero, List.set_cons_succ]
          refine wpAnyH_take (i := 14) rfl (by kernel_rfl) (by kernel_rfl) (by kernel_rfl) (fun _ _ _ h => h) (Or.inl ⟨by rfl, by intro W hSW; (try dsimp only at hSW); go_simp; try (with_reducible rfl)⟩) hHeld ?_
          try simp only [Act.put, List.getElem_toArray, List.getElem_cons_zero, List.getElem_cons_succ, List.setIfInBounds_toArray, List.set_cons_zero, List.set_cons_succ]
          refine wpAnyH_done (by kernel_rfl) ?_ _
          refine NoPanic.normal ?_
          go_wp2_with fail
          go_roundw
          case rel =>
            have hb4 : Below (w.heap.size + 2) wf w6 := (((drew_below wf).mono HSG2.out).trans ((alloc_ wf.drew _).mono HSG2.out)).grown H3.out (by have := HSG2.out; simp; omega) fun r e => (HOG2.out.lt r e).1
            refine ⟨q + 1, xs ++ [(v0, v1, be)], t, by omega, by go_num, ⟨HRG2.out.below hb4 (by omega), HTG2.out.below hb4 (by omega)⟩, H2.out, HBG2.out.trans (hb4.mono (by omega)), Lib.hid (by have := hb4.size; have := HSG2.out; omega), Lib.hid (by rw [List.length_append, HXL.out]; rfl), HTN, HINV2⟩
          case measure => simp [intOf]; omega
    · obtain rfl : q = N := by omega
      have hz := HINV.out
      rw [Nat.sub_self] at hz
      have HZ := Lib.hid (show o.1 = some xs ∧ o.2 = st from by rw [hz.1, hz.2]; unfold rfs; simp)
      obtain ⟨nb, hnb⟩ : ∃ b, (!st.2) = b := ⟨_, rfl⟩
      have HNB := Lib.hid hnb
      have HRC := Lib.hid (show rdC A n c st = #[.slice A n c, .int .i64 (st.1 : Int), .bool nb] from by rw [rdC_eq, hnb])
      rw [hnb] at HR2
      obtain ⟨y0, y1, y2⟩ := blk_ce3 HR2.out
      obtain ⟨r0, r1, r2⟩ := blk_ce3 HT.out
      obtain ⟨q0, q1, q2⟩ := blk_fr3 HT.out
      have HPT := Lib.hid (show ∀ b, Blk (((wr.setCell ⟨w.heap.size + 1, 0, none⟩ (.slice A n c)).setCell ⟨w.heap.size + 1, 1, none⟩ (.int .i64 (st.1 : Int))).setCell ⟨w.heap.size + 1, 2, none⟩ (.bool b)) (w.heap.size + 1) 42 #[.slice A n c, .int .i64 (st.1 : Int), .bool b] from fun b => blk_put3 HT.out _ _ _)
      have HPB := Lib.hid (show ∀ b, Below w.heap.size w (((wr.setCell ⟨w.heap.size + 1, 0, none⟩ (.slice A n c)).setCell ⟨w.heap.size + 1, 1, none⟩ (.int .i64 (st.1 : Int))).setCell ⟨w.heap.size + 1, 2, none⟩ (.bool b)) from fun b => below_put3 HBE.out _ (by omega) _ _ _)
      clear hz hnb
      cases nb with
      | true =>
        have HE := Lib.hid (show rrE o = 5 from by unfold rrE; rw [HZ.out.1, HZ.out.2]; have := HNB.out; simp at this; simp [this])
        have HEL := Lib.hid (show rrL o = [] from by unfold rrL; rw [HE.out]; rfl)
        go_wp2_with fail
        obtain ⟨z0, z1, z2⟩ := blk_ce3 (HPT.out true)
        refine bodyPost_ret (v := .tuple #[.agg #[.slice A n c, .int .i64 (st.1 : Int), .bool true], .slice none 0 0, .int .i64 5]) (by simp [results, Tryz.results88, go_sem, z0, z1, z2]) rfl ?_
        exact ⟨st, none, 0, by rw [HE.out, HEL.out, HRC.out]; rfl, by rw [HEL.out]; exact Wd.nil, fun e => by rw [HE.out] at e; exact absurd e (by decide), (fun ad e => nomatch e), HPB.out true⟩
      | false =>
        have HE := Lib.hid (show rrE o = 0 from by unfold rrE; rw [HZ.out.1, HZ.out.2]; have := HNB.out; simp at this; simp [this])
        have HEL := Lib.hid (show rrL o = xs from by unfold rrL; rw [HE.out, HZ.out.1]; rfl)
        obtain ⟨A5, c5, rfl, hl5⟩ := RlL.own HXL.out HOW.out
        have HL5 := Lib.hid hl5
        clear hl5
        go_wp2_with fail
        obtain ⟨z0, z1, z2⟩ := blk_ce3 (HPT.out false)
        refine bodyPost_ret (v := .tuple #[.agg #[.slice A n c, .int .i64 (st.1 : Int), .bool false], .slice A5 q c5, .int .i64 0]) (by simp [results, Tryz.results88, go_sem, z0, z1, z2]) rfl ?_
        refine ⟨st, A5, c5, by rw [HE.out, HEL.out, HRC.out, HXL.out], ?_, fun _ => HZ.out.2.symm, (fun ad e => by subst e; have := (HOW.out.lt ad.block rfl).1; omega), HPB.out false⟩
        rw [HEL.out, HXL.out]
        have h9 := ownk_keep (w' := (((wr.setCell ⟨w.heap.size + 1, 0, none⟩ (.slice A n c)).setCell ⟨w.heap.size + 1, 1, none⟩ (.int .i64 (st.1 : Int))).setCell ⟨w.heap.size + 1, 2, none⟩ (.bool false))) HOW.out fun gg hb hlt => heap_put3 wr (w.heap.size + 1) gg (by omega) _ _ _
        obtain ⟨A9, c9, e9, h9⟩ := RlL.own HXL.out h9
        injection e9 with e1 e2 e3
        subst e1 e3
        exact h9
end Go.Proofs.YtbknmapkdjmcjaaGreatDoor.By

namespace Go.Proofs.YtbknmapkdjmcjaaGreatDoor.By
open Go.RowKit
open Mem Gm Rf
set_option linter.unusedSimpArgs false
set_option linter.unusedVariables false

set_option maxRecDepth 100000 in
set_option maxHeartbeats 2000000 in
theorem someQ_any (q : Int) (w : World) (A : Option Addr) (n c : Nat) (l : List UInt8) (s : Std) (hn : l.length = n) (hl : n ≤ 1000000) (hs : s.1 ≤ n) (hv : SlV w w.heap.size (.slice A n c) (u8s l)) :
    Calls Tryz.prog 162 #[.agg (rdC A n c s), .int .i64 q] w (NqAns (fun _ => q) (rvS l s 1).toNat l (pgS l s 1) w A n c) := by
  obtain ⟨i0, hi, hz0, hz1, hz2⟩ := info_parts info2
  obtain ⟨M, hM⟩ : ∃ M, (rvS l s 1).toNat = M := ⟨_, rfl⟩
  have h2 := num_one l s
  have hNI : rvS l s 1 = (M : Int) := by omega
  have hMB : M ≤ 255 := by omega
  obtain ⟨s0, hs0⟩ : ∃ s0, pgS l s 1 = s0 := ⟨_, rfl⟩
  have hl0 : s0.1 ≤ n := by rw [← hs0, ← hn]; exact pgS_le (by omega) 1
  have HNUM := Lib.hid (show ∀ W, Below w.heap.size w W → Calls Tryz.prog 86 #[.agg #[.slice A n c, .int .i64 (s.1 : Int), .bool (!s.2)], .int .i64 1, .bool false] W fun e w' => e = .returned (.tuple #[.agg #[.slice A n c, .int .i64 (s0.1 : Int), .bool (!s0.2)], .int .i64 (M : Int)]) ∧ Below W.heap.size W w' from fun W hb => by
    have := rnum_any W w.heap.size A c l s.1 s.2 false 1 (by omega) (by omega) (by rw [hn]; exact hv.below hb)
    rw [hn] at this
    refine this.mono fun e w' hh => ?_
    obtain ⟨h1, h2⟩ := hh
    refine ⟨?_, h2⟩
    rw [h1, ← hs0, ← hNI]; rfl)
  rw [hM, hs0]
  have HNM := Lib.hid (show ∀ W (k : Nat), Below w.heap.size w W → Calls Tryz.prog 86 #[.agg #[.slice A n c, .int .i64 ((stQ (fun _ => q) l s0 k).1 : Int), .bool (!(stQ (fun _ => q) l s0 k).2)], .int .i64 q, .bool false] W fun e w' => e = .returned (.tuple #[.agg #[.slice A n c, .int .i64 ((stQ (fun _ => q) l s0 (k + 1)).1 : Int), .bool (!(stQ (fun _ => q) l s0 (k + 1)).2)], .int .i64 (rvS l (stQ (fun _ => q) l s0 k) q)]) ∧ Below W.heap.size W w' from fun W k hb => by
    have := rnum_any W w.heap.size A c l (stQ (fun _ => q) l s0 k).1 (stQ (fun _ => q) l s0 k).2 false q (stQ_le (by omega) k) (by omega) (by rw [hn]; exact hv.below hb)
    rw [hn] at this; exact this)
  have HVQ := Lib.hid (show ∀ k, vlQ (fun _ => q) l s0 (k + 1) = vlQ (fun _ => q) l s0 k ++ [rvS l (stQ (fun _ => q) l s0 k) q] from fun k => vlQ_next (fun _ => q) l s0 k)
  have HV0 := Lib.hid (show vlQ (fun _ => q) l s0 0 = [] from rfl)
  have HS00 := Lib.hid (show stQ (fun _ => q) l s0 0 = s0 from rfl)
  obtain ⟨W0, hW0⟩ : ∃ W0, (w.alloc (.cells #[.slice A n c, .int .i64 (s.1 : Int), .bool (!s.2)] 42)).alloc (.cells #[.slice none 0 0, .int .i64 0, .bool false] 42) = W0 := ⟨_, rfl⟩
  have HS0 := Lib.hid (show Blk W0 w.heap.size 42 #[.slice A n c, .int .i64 (s.1 : Int), .bool (!s.2)] ∧ Blk W0 (w.heap.size + 1) 42 #[.slice none 0 0, .int .i64 0, .bool false] ∧ Below w.heap.size w W0 from by
    rw [← hW0]
    refine ⟨(Blk.new w _ _).alloc _, ?_, to_ (alloc_ _ _) (alloc_ _ _)⟩
    have := Blk.new (w.alloc (.cells #[.slice A n c, .int .i64 (s.1 : Int), .bool (!s.2)] 42)) 42 #[.slice none 0 0, .int .i64 0, .bool false]
    rwa [World.size_alloc] at this)
  clear hv hM h2 hNI hs0 hs hl0 hn hl
  obtain ⟨x0, x1, x2⟩ := blk_ce3 HS0.out.1
  unfold rdC NqAns
  generalize stQ (fun _ => q) l s0 = sq at HNM HVQ HS00 ⊢
  generalize vlQ (fun _ => q) l s0 = vq at HVQ HV0 ⊢
  go_enter Tryz.func162, Tryz.ntmps162
  go_wp2_with fail
  clear hW0 x0 x1 x2
  refine (HNUM.out W0 HS0.out.2.2).mono ?_
  rintro e w1 ⟨rfl, b1⟩
  have HR1 := Lib.hid (HS0.out.1.below b1 HS0.out.1.lt)
  have HT1 := Lib.hid (HS0.out.2.1.below b1 HS0.out.2.1.lt)
  have HB1 := Lib.hid (to_ HS0.out.2.2 b1)
  obtain ⟨x0, x1, x2⟩ := blk_ce3 HR1.out
  obtain ⟨f0, f1, f2⟩ := blk_fr3 HR1.out
  clear b1
  obtain ⟨wg, hwg⟩ : ∃ wg, ((w1.setCell ⟨w.heap.size, 0, none⟩ (.slice A n c)).setCell ⟨w.heap.size, 1, none⟩ (.int .i64 (s0.1 : Int))).setCell ⟨w.heap.size, 2, none⟩ (.bool (!s0.2)) = wg := ⟨_, rfl⟩
  have HRG := Lib.hid (show Blk wg w.heap.size 42 #[.slice A n c, .int .i64 ((sq 0).1 : Int), .bool (!(sq 0).2)] from by rw [← hwg, HS00.out]; exact blk_put3 HR1.out _ _ _)
  have HTG := Lib.hid (show Blk wg (w.heap.size + 1) 42 #[.slice none 0 0, .int .i64 0, .bool false] from by rw [← hwg]; exact blk_away3 HT1.out _ (by omega) _ _ _)
  have HBG := Lib.hid (show Below w.heap.size w wg from by rw [← hwg]; exact below_put3 HB1.out _ (Nat.le_refl _) _ _ _)
  go_wp2_with fail
  clear hwg x0 x1 x2 f0 f1 f2
  go_loopw [7, 8] (fun v i wr => ∃ k : Nat, k ≤ M ∧ i = .int .i64 (k : Int) ∧ Blk wr w.heap.size 42 #[.slice A n c, .int .i64 ((sq k).1 : Int), .bool (!(sq k).2)] ∧ Blk wr (w.heap.size + 1) 42 #[.slice none 0 0, .int .i64 0, .bool false] ∧ wr.ownsRow (w.heap.size + 2) 2 1 v k (ints (vq k)) ∧ Below w.heap.size w wr ∧ Hid (w.heap.size + 2 ≤ wr.heap.size)) (fun _ i _ => M - (intOf i).toNat)
  case atStart => exact ⟨0, Nat.zero_le _, rfl, HRG.out, HTG.out, by rw [HV0.out]; exact World.ownsRow_nil _ _ _ _, HBG.out, Lib.hid (by have := HTG.out.lt; omega)⟩
  case round =>
    obtain ⟨k, hk, rfl, hxb, hrb, hown, hbel, HSZ⟩ := hrel
    have HXB := Lib.hid hxb
    have HRB := Lib.hid hrb
    have HOW := Lib.hid hown
    have HBE := Lib.hid hbel
    by_cases hlt : k < M
    · have hkI : (k : Int) < (M : Int) := by omega
      have HNK := Lib.hid (HNM.out wr k hbel)
      have HVN := Lib.hid (HVQ.out k)
      obtain ⟨x0, x1, x2⟩ := blk_ce3 HXB.out
      obtain ⟨p, hp⟩ : ∃ p : Nat, (sq k).1 = p := ⟨_, rfl⟩
      obtain ⟨bd, hbd⟩ : ∃ bd, (!(sq k).2) = bd := ⟨_, rfl⟩
      rw [hp] at x1 HNK
      rw [hbd] at x2 HNK
      generalize rvS l (sq k) q = z at HNK HVN
      obtain ⟨t, ht⟩ : ∃ t, sq (k + 1) = t := ⟨_, rfl⟩
      rw [ht] at HNK
      have HT := Lib.hid ht
      clear hxb hrb hown hbel hp hbd ht
      go_wp2_with fail
      clear x0 x1 x2
      refine HNK.out.mono ?_
      rintro e w2 ⟨rfl, B⟩
      have B2 := Lib.hid B
      clear B
      obtain ⟨wf, hwf⟩ : ∃ wf, w2.alloc (.cells #[.slice A n c, .int .i64 (t.1 : Int), .bool (!t.2)] 42) = wf := ⟨_, rfl⟩
      have HFW := Lib.hid (show Below wr.heap.size wr wf from by rw [← hwf]; exact to_ B2.out (alloc_ _ _))
      have HFB := Lib.hid (show Blk wf w2.heap.size 42 #[.slice A n c, .int .i64 (t.1 : Int), .bool (!t.2)] from by rw [← hwf]; exact Blk.new w2 _ _)
      obtain ⟨y0, y1, y2⟩ := blk_ce3 HFB.out
      have HXF := Lib.hid (HXB.out.below HFW.out HXB.out.lt)
      obtain ⟨x0, x1, x2⟩ := blk_ce3 HXF.out
      obtain ⟨f0, f1, f2⟩ := blk_fr3 HXF.out
      clear hk
      obtain ⟨wg, hwg⟩ : ∃ wg, ((wf.setCell ⟨w.heap.size, 0, none⟩ (.slice A n c)).setCell ⟨w.heap.size, 1, none⟩ (.int .i64 (t.1 : Int))).setCell ⟨w.heap.size, 2, none⟩ (.bool (!t.2)) = wg := ⟨_, rfl⟩
      have HOG := Lib.hid (show wg.ownsRow (w.heap.size + 2) 2 1 _ k (ints (vq k)) from by rw [← hwg]; exact ownk_keep HOW.out fun gg hb hlt => (heap_put3 wf w.heap.size gg (by omega) _ _ _).trans (HFW.out.block gg hlt))
      have HOGS := Lib.hid (show w.heap.size + 2 ≤ wg.heap.size from by rw [← hwg]; have := HSZ.out; have := HFW.out.size; simp; omega)
      have HBG := Lib.hid (show Below w.heap.size w wg from by rw [← hwg]; exact below_put3 (to_ HBE.out HFW.out) _ (Nat.le_refl _) _ _ _)
      have HXG := Lib.hid (show Blk wg w.heap.size 42 #[.slice A n c, .int .i64 (t.1 : Int), .bool (!t.2)] from by rw [← hwg]; exact blk_put3 HXF.out _ _ _)
      have HRG := Lib.hid (show Blk wg (w.heap.size + 1) 42 #[.slice none 0 0, .int .i64 0, .bool false] from by rw [← hwg]; exact blk_away3 (HRB.out.below HFW.out HRB.out.lt) _ (by omega) _ _ _)
      go_wp2_with (at_builtin; go_loud (refine wpList_append_own _ rfl _ _ 135 rfl (w.heap.size + 2) 2 i0 (.int .i64 0) 1 8 Tryz.underlying135 hi hz0 hz1 hz2 rfl (by decide) _ _ _ rfl (ownk_keep HOG.out fun gg hb hlt => Below.heap_alloc _ _ _ hlt) ⟨wg.heap.size, 0, none⟩ 1 1 [.int .i64 z] rfl rfl (fun j u hu => by rw [add_plain, Nat.zero_add]; exact ((Blk.new wg 2 #[.int .i64 z]).cell j).trans (by simpa using hu)) (by simp [Value.oneCell']) (by unfold maxLen; omega) (by omega) (by have := HOGS.out; simp; omega) ?_; intro v' w4 h2 h3 h4; clear h4; have H2 := Lib.hid h2; have H3 := Lib.hid h3; clear h2 h3))
      clear hwg x0 x1 x2 f0 f1 f2 y0 y1 y2
      go_roundw
      case rel =>
        have hb4 : Below w.heap.size w w4 := (to_ HBG.out (alloc_ _ _)).grown H3.out (to_ HBG.out (alloc_ _ _)).size fun r e => by have := (HOG.out.lt r e).1; omega
        have hne : ∀ g, g < w.heap.size + 2 → w4.heap[g]? = wg.heap[g]? := fun g hg => (H3.out.block g (by have := HOGS.out; simp; omega) (fun e => by have := (HOG.out.lt g e.symm).1; omega)).trans (Below.heap_alloc _ _ _ (by have := HOGS.out; omega))
        refine ⟨k + 1, by omega, by go_num, ?_, (hne _ (by omega)).trans HRG.out, ?_, hb4, Lib.hid (by have := HOGS.out; have := H3.out.size; simp at this; omega)⟩
        · rw [HT.out]; exact (hne _ (by omega)).trans HXG.out
        · rw [HVN.out, ← ints_app1]; exact H2.out
      case measure => simp [intOf]; omega
    · obtain rfl : k = M := by omega
      obtain ⟨x0, x1, x2⟩ := blk_ce3 HXB.out
      obtain ⟨y0, y1, y2⟩ := blk_ce3 HRB.out
      obtain ⟨f0, f1, f2⟩ := blk_fr3 HRB.out
      obtain ⟨A2, c2, rfl⟩ := own_formW hown
      obtain ⟨t, ht⟩ : ∃ t, sq k = t := ⟨_, rfl⟩
      have HS5 := Lib.hid ht
      rw [ht] at x1 x2
      clear hxb hrb hown hbel ht
      go_wp2_with fail
      refine bodyPost_ret (v := .tuple #[.agg #[.slice A n c, .int .i64 (t.1 : Int), .bool (!t.2)], .slice A2 k c2]) (by simp [results, Tryz.results162, go_sem, y0, y1, y2]) rfl ?_
      have hown2 : ((((wr.setCell ⟨w.heap.size + 1, 0, none⟩ (.slice A n c)).setCell ⟨w.heap.size + 1, 1, none⟩ (.int .i64 (t.1 : Int))).setCell ⟨w.heap.size + 1, 2, none⟩ (.bool (!t.2)))).ownsRow (w.heap.size + 2) 2 1 (.slice A2 k c2) k (ints (vq k)) := ownk_keep HOW.out fun gg hb hlt => heap_put3 wr (w.heap.size + 1) gg (by omega) _ _ _
      refine ⟨A2, c2, by rw [HS5.out], SlV.of_own hown2, below_put3 HBE.out _ (by omega) _ _ _, fun ad e => by subst e; have := (HOW.out.lt ad.block rfl).1; omega⟩
end Go.Proofs.YtbknmapkdjmcjaaGreatDoor.By

namespace Go.Proofs.YtbknmapkdjmcjaaGreatDoor.By
open Go.RowKit
open Mem Gm Rf
set_option linter.unusedSimpArgs false
set_option linter.unusedVariables false

theorem beq_dec (a b : Int) : (a == b) = decide (a = b) := by by_cases h : a = b <;> simp [h]
/-- The program's reader and the document's stand alike: both are good, or both told that bytes were short. -/
def Rq (q : Sw) (t : Std) : Prop := (q = (t, 0) ∧ t.2 = true) ∨ (q.2 = 5 ∧ q.1.2 = false ∧ t.2 = false)
theorem Rq.val {l : List UInt8} {q : Sw} {t : Std} (h : Rq q t) (k : Int) : nvS l q k = rvS l t k := by
  rcases h with ⟨rfl, _⟩ | ⟨_, h2, h3⟩
  · rfl
  · unfold nvS; rw [(pg_bad h2 k).2, (pg_bad h3 k).2]
theorem Rq.next {l : List UInt8} {q : Sw} {t : Std} (h : Rq q t) (k : Int) : Rq (wdS l q k) (pgS l t k) := by
  rcases h with ⟨rfl, _⟩ | ⟨h1, h2, h3⟩
  · unfold wdS
    by_cases hb : (pgS l t k).2 = true
    · rw [if_pos hb]; exact .inl ⟨rfl, hb⟩
    · rw [if_neg hb]
      have hb' : (pgS l t k).2 = false := by simpa using hb
      exact .inr ⟨rfl, hb', hb'⟩
  · have hb := (pg_bad (l := l) h2 k).1
    unfold wdS
    rw [if_neg (by rw [hb]; simp)]
    exact .inr ⟨by show tlS q.2 5 = 5; unfold tlS; rw [h1]; rfl, hb, (pg_bad h3 k).1⟩
theorem Rq.good {q : Sw} {t : Std} (h : Rq q t) (ht : t.2 = true) : q = (t, 0) := by
  rcases h with ⟨h, _⟩ | ⟨_, _, h⟩
  · exact h
  · rw [ht] at h; cases h
theorem Rq.bad {q : Sw} {t : Std} (h : Rq q t) (ht : t.2 = false) : q.2 = 5 := by
  rcases h with ⟨_, h⟩ | ⟨h, _, _⟩
  · rw [ht] at h; cases h
  · exact h
/-- What was told first stays. -/
def Stk (f : Sw → Sw) : Prop := ∀ q, q.2 ≠ 0 → (f q).2 = q.2
theorem tlW_stk (q : Sw) (e : Int) (h : q.2 ≠ 0) : (tlW q e).2 = q.2 := by unfold tlW tlS; simp [h]
theorem wdS_stk (l : List UInt8) (k : Int) : Stk fun q => wdS l q k := fun q h => by
  dsimp only
  unfold wdS
  split
  · rfl
  · exact tlW_stk (pgS l q.1 k, q.2) 5 h
theorem fgS_stk (l : List UInt8) : Stk (fgS l) := fun q h => by
  have h1 := wdS_stk l 1 q h
  dsimp only at h1
  unfold fgS
  split
  · rw [tlW_stk _ _ (by rw [h1]; exact h), h1]
  · exact h1
theorem inS5_stk (l : List UInt8) : Stk (inS5 l) := fun q h => tlW_stk (pgS l q.1 8, q.2) _ h
theorem Stk.comp {f g : Sw → Sw} (hf : Stk f) (hg : Stk g) : Stk fun q => f (g q) := fun q h => by
  have h1 := hg q h
  exact (hf (g q) (by rw [h1]; exact h)).trans h1
theorem lnS_stk (l : List UInt8) : Stk (lnS l) := (wdS_stk l 2).comp (wdS_stk l 1)
theorem rfS_stk (l : List UInt8) : Stk (rfS l) := (fgS_stk l).comp ((wdS_stk l 1).comp (wdS_stk l 1))
theorem itS_stk {f : Sw → Sw} (hf : Stk f) : ∀ n, Stk (itS f n)
  | 0 => fun q _ => rfl
  | n + 1 => hf.comp (itS_stk hf n)
theorem sevS_stk {f : List UInt8 → Sw → Sw} (l : List UInt8) (hf : Stk (f l)) : Stk (sevS f l) := fun q h => by
  have h1 := wdS_stk l 1 q h
  dsimp only at h1
  exact (itS_stk hf _ _ (by rw [h1]; exact h)).trans h1

/-- Numbers of one byte each. -/
theorem it_nums (l : List UInt8) (q : Sw) (t : Std) (h : Rq q t) : ∀ n, Rq (itS (nmS1 l) n q) (stQ (fun _ => 1) l t n)
  | 0 => h
  | n + 1 => (it_nums l q t h n).next 1
theorem vl_nums (l : List UInt8) (q : Sw) (t : Std) (h : Rq q t) (n : Nat) : vls (nmV1 l) (nmS1 l) n q = vlQ (fun _ => 1) l t n := by
  unfold vls vlQ
  exact List.map_congr_left fun i _ => (it_nums l q t h i).val 1

theorem fits_iff (l : List UInt8) (p : Nat) (k : Nat) (h1 : 1 ≤ k) (h8 : k ≤ 8) : fitsB l p true k = true ↔ p + k ≤ l.length := by
  unfold fitsB; simp; omega
theorem nat_num (us : List UInt8) (h : us.length ≤ 7) (h0 : us ≠ []) : numV false us = (natV us : Int) := by
  match us, h0 with
  | x :: r, _ =>
    rw [numV_plain]
    have h1 := natV_lt (x :: r)
    have h2 := pow_small (x :: r).length h
    exact wrap_in _ ⟨by omega, by omega⟩
theorem natV_app (a b : List UInt8) : natV (a ++ b) = natV a * 256 ^ b.length + natV b := by
  show (a ++ b).foldl (fun n b => n * 256 + b.toNat) 0 = _
  rw [List.foldl_append, foldl_nat]
  rfl
theorem val_of (l : List UInt8) (p k : Nat) (h1 : 1 ≤ k) (h7 : k ≤ 7) (h : p + k ≤ l.length) : rvS l (p, true) (k : Int) = (natV ((l.drop p).take k) : Int) := by
  show (if fitsB l p true (k : Int) = true then numV false ((l.drop p).take (Int.toNat (k : Int))) else 0) = _
  rw [if_pos ((fits_iff l p k h1 (by omega)).2 h), show Int.toNat (k : Int) = k from by simp]
  exact nat_num _ (by simp; omega) (fun e => by have := congrArg List.length e; simp at this; omega)
/-- Three bytes are one, and two behind it. -/
theorem three_of (l : List UInt8) (p : Nat) (h : p + 3 ≤ l.length) :
    rvS l (p, true) 3 = rvS l (p, true) 1 * 65536 + rvS l (p + 1, true) 2 ∧ 0 ≤ rvS l (p + 1, true) 2 ∧ rvS l (p + 1, true) 2 < 65536 ∧ 0 ≤ rvS l (p, true) 1 := by
  have e3 : rvS l (p, true) 3 = (natV ((l.drop p).take 3) : Int) := val_of l p 3 (by omega) (by omega) h
  have e1 : rvS l (p, true) 1 = (natV ((l.drop p).take 1) : Int) := val_of l p 1 (by omega) (by omega) (by omega)
  have e2 : rvS l (p + 1, true) 2 = (natV ((l.drop (p + 1)).take 2) : Int) := val_of l (p + 1) 2 (by omega) (by omega) (by omega)
  have hs : (l.drop p).take 3 = (l.drop p).take 1 ++ (l.drop (p + 1)).take 2 := by
    rw [show (3 : Nat) = 1 + 2 from rfl, List.take_add, List.drop_drop]
  have hl2 : ((l.drop (p + 1)).take 2).length = 2 := by simp; omega
  have hn := natV_app ((l.drop p).take 1) ((l.drop (p + 1)).take 2)
  rw [← hs, hl2] at hn
  have hb := natV_lt ((l.drop (p + 1)).take 2)
  rw [hl2] at hb
  rw [e3, e1, e2]
  have h65 : (256 : Nat) ^ 2 = 65536 := by decide
  rw [h65] at hn hb
  refine ⟨by rw [hn]; simp, by omega, by omega, by omega⟩
theorem pg_of (l : List UInt8) (p : Nat) (k : Nat) (h1 : 1 ≤ k) (h8 : k ≤ 8) (h : p + k ≤ l.length) : pgS l (p, true) k = (p + k, true) := by
  unfold pgS readP
  rw [(fits_iff l p k h1 h8).2 h]
  simp
theorem pg_no (l : List UInt8) (p : Nat) (k : Nat) (h1 : 1 ≤ k) (h8 : k ≤ 8) (h : ¬ p + k ≤ l.length) : (pgS l (p, true) k).2 = false := by
  show fitsB l p true k = false
  cases hf : fitsB l p true k
  · rfl
  · exact absurd ((fits_iff l p k h1 h8).1 hf) h
theorem Rq.line {l : List UInt8} {q : Sw} {t : Std} (h : Rq q t) : Rq (lnS l q) (pgS l t 3) ∧ ((pgS l t 3).2 = true → lnV l q = (rvS l t 3 / 65536, rvS l t 3 % 65536)) := by
  rcases h with ⟨rfl, hg⟩ | hb
  · obtain ⟨p, g⟩ := t
    dsimp only at hg
    subst hg
    by_cases h3 : p + 3 ≤ l.length
    · have e3 := pg_of l p 3 (by omega) (by omega) h3
      have e1 := pg_of l p 1 (by omega) (by omega) (by omega)
      have e2 := pg_of l (p + 1) 2 (by omega) (by omega) (by omega)
      have w1 : wdS l ((p, true), 0) 1 = ((p + 1, true), 0) := by unfold wdS; rw [show pgS l ((p, true), (0 : Int)).1 1 = (p + 1, true) from e1]; rfl
      have w2 : wdS l ((p + 1, true), 0) 2 = ((p + 3, true), 0) := by unfold wdS; rw [show pgS l ((p + 1, true), (0 : Int)).1 2 = (p + 1 + 2, true) from e2]; rfl
      have ht := three_of l p h3
      refine ⟨?_, fun _ => ?_⟩
      · unfold lnS
        rw [w1, w2, show pgS l (p, true) 3 = (p + 3, true) from e3]
        exact .inl ⟨rfl, rfl⟩
      · unfold lnV
        rw [w1]
        show (rvS l (p, true) 1, rvS l (p + 1, true) 2) = _
        rw [ht.1]
        refine Prod.ext ?_ ?_ <;> (dsimp only; omega)
    · have e3 := pg_no l p 3 (by omega) (by omega) h3
      refine ⟨?_, fun h => by rw [show (pgS l (p, true) 3).2 = false from e3] at h; cases h⟩
      have hq : (lnS l ((p, true), 0)).2 = 5 ∧ (lnS l ((p, true), 0)).1.2 = false := by
        unfold lnS
        by_cases h1 : p + 1 ≤ l.length
        · have e1 := pg_of l p 1 (by omega) (by omega) (by omega)
          have e2 := pg_no l (p + 1) 2 (by omega) (by omega) (by omega)
          have w1 : wdS l ((p, true), 0) 1 = ((p + 1, true), 0) := by unfold wdS; rw [show pgS l ((p, true), (0 : Int)).1 1 = (p + 1, true) from e1]; rfl
          rw [w1]
          unfold wdS
          rw [if_neg (by rw [show (pgS l ((p + 1, true), (0 : Int)).1 2).2 = false from e2]; simp)]
          exact ⟨rfl, e2⟩
        · have e1 := pg_no l p 1 (by omega) (by omega) h1
          have hr : Rq (wdS l ((p, true), 0) 1) (pgS l (p, true) 1) := Rq.next (.inl ⟨rfl, rfl⟩) 1
          have hr2 := Rq.next (l := l) hr 2
          have hb2 : (pgS l (pgS l (p, true) 1) 2).2 = false := (pg_bad e1 2).1
          rcases hr2 with ⟨_, h9⟩ | ⟨h7, h8, _⟩
          · rw [hb2] at h9; cases h9
          · exact ⟨h7, h8⟩
      exact .inr ⟨hq.1, hq.2, e3⟩
  · have ht := hb.2.2
    have hb3 := (pg_bad (l := l) ht 3).1
    refine ⟨?_, fun h => by rw [hb3] at h; cases h⟩
    have h1 := Rq.next (l := l) (Rq.next (l := l) (Or.inr hb) 1) 2
    have hb2 : (pgS l (pgS l t 1) 2).2 = false := (pg_bad (pg_bad ht 1).1 2).1
    rcases h1 with ⟨_, h9⟩ | ⟨h7, h8, _⟩
    · rw [hb2] at h9; cases h9
    · exact .inr ⟨h7, h8, hb3⟩
theorem it_lines (l : List UInt8) (q : Sw) (t : Std) (h : Rq q t) : ∀ n, Rq (itS (lnS l) n q) (stQ (fun _ => 3) l t n)
  | 0 => h
  | n + 1 => (it_lines l q t h n).line.1
theorem stQ_good {wd : Nat → Int} {l : List UInt8} {t : Std} : ∀ {n i : Nat}, i ≤ n → (stQ wd l t n).2 = true → (stQ wd l t i).2 = true
  | 0, i, hi, h => by obtain rfl : i = 0 := by omega
                      exact h
  | n + 1, i, hi, h => by
    by_cases he : i = n + 1
    · subst he; exact h
    · refine stQ_good (n := n) (by omega) ?_
      cases hg : (stQ wd l t n).2
      · have := (pg_bad (l := l) hg (wd n)).1
        rw [show stQ wd l t (n + 1) = pgS l (stQ wd l t n) (wd n) from rfl, this] at h
        exact h
      · rfl
theorem vl_lines (l : List UInt8) (q : Sw) (t : Std) (h : Rq q t) (n : Nat) (hg : (stQ (fun _ => 3) l t n).2 = true) : vls (lnV l) (lnS l) n q = (vlQ (fun _ => 3) l t n).map fun v => (v / 65536, v % 65536) := by
  unfold vls vlQ
  rw [List.map_map]
  refine List.map_congr_left fun i hi => ?_
  have hi' : i < n := by simpa using hi
  exact (it_lines l q t h i).line.2 (stQ_good (n := n) (i := i + 1) (by omega) hg)

/-- How the document's reader stands behind so many instructions; the first error of these. -/
noncomputable def stI (l : List UInt8) (t : Std) : Nat → Std
  | 0 => t
  | k + 1 => pgS l (stI l t k) 8
noncomputable def ceE (l : List UInt8) (t : Std) : Nat → Int
  | 0 => 0
  | k + 1 => if ceE l t k = 0 then gotE l (stI l t k).1 (stI l t k).2 else ceE l t k
noncomputable def ciV (l : List UInt8) (t : Std) (n : Nat) : List In5 := (List.range n).map fun i => inV5 l (stI l t i, 0)
theorem ciV_next (l : List UInt8) (t : Std) (n : Nat) : ciV l t (n + 1) = ciV l t n ++ [inV5 l (stI l t n, 0)] := by unfold ciV; rw [List.range_succ]; simp
theorem ciV_len (l : List UInt8) (t : Std) (n : Nat) : (ciV l t n).length = n := by simp [ciV]
theorem ceE_back {l : List UInt8} {t : Std} {n : Nat} (h : ceE l t (n + 1) = 0) : ceE l t n = 0 ∧ gotE l (stI l t n).1 (stI l t n).2 = 0 := by
  unfold ceE at h
  split at h
  · exact ⟨by assumption, h⟩
  · exact absurd h (by assumption)
theorem ceE_ge {l : List UInt8} {t : Std} : ∀ {n i : Nat}, i ≤ n → ceE l t n = 0 → ceE l t i = 0
  | 0, i, hi, h => by obtain rfl : i = 0 := by omega
                      exact h
  | n + 1, i, hi, h => by
    by_cases he : i = n + 1
    · subst he; exact h
    · exact ceE_ge (n := n) (by omega) (ceE_back h).1
theorem ceE_fix {l : List UInt8} {t : Std} {k : Nat} (h : ceE l t k ≠ 0) : ∀ n, k ≤ n → ceE l t n = ceE l t k
  | 0, hn => by obtain rfl : k = 0 := by omega
                rfl
  | n + 1, hn => by
    by_cases he : k = n + 1
    · subst he; rfl
    · have h1 := ceE_fix h n (by omega)
      show (if ceE l t n = 0 then _ else ceE l t n) = _
      rw [if_neg (by rw [h1]; exact h), h1]
theorem got_good {l : List UInt8} {t : Std} (h : gotE l t.1 t.2 = 0) : (pgS l t 8).2 = true := by
  unfold gotE at h
  split at h
  · assumption
  · cases h
theorem it_ins (l : List UInt8) (t : Std) (ht : t.2 = true) : ∀ n, (ceE l t n = 0 → itS (inS5 l) n (t, 0) = (stI l t n, 0) ∧ (stI l t n).2 = true) ∧ (ceE l t n ≠ 0 → (itS (inS5 l) n (t, 0)).2 = ceE l t n)
  | 0 => ⟨fun _ => ⟨rfl, ht⟩, fun h => absurd rfl h⟩
  | n + 1 => by
    have ih := it_ins l t ht n
    refine ⟨fun h => ?_, fun h => ?_⟩
    · obtain ⟨h1, h2⟩ := ceE_back h
      obtain ⟨h3, h4⟩ := ih.1 h1
      refine ⟨?_, got_good h2⟩
      show inS5 l (itS (inS5 l) n (t, 0)) = _
      rw [h3]
      show tlW (pgS l (stI l t n) 8, 0) (gotE l (stI l t n).1 (stI l t n).2) = _
      rw [h2]
      rfl
    · by_cases h1 : ceE l t n = 0
      · have he : ceE l t (n + 1) = gotE l (stI l t n).1 (stI l t n).2 := by rw [ceE, if_pos h1]
        show (inS5 l (itS (inS5 l) n (t, 0))).2 = _
        rw [(ih.1 h1).1, he]
        rfl
      · have he : ceE l t (n + 1) = ceE l t n := by rw [ceE, if_neg h1]
        have h2 := ih.2 h1
        show (inS5 l (itS (inS5 l) n (t, 0))).2 = _
        rw [inS5_stk l _ (by rw [h2]; exact h1), h2, he]
theorem vl_ins (l : List UInt8) (t : Std) (ht : t.2 = true) (n : Nat) (h : ceE l t n = 0) : vls (inV5 l) (inS5 l) n (t, 0) = ciV l t n := by
  unfold vls ciV
  refine List.map_congr_left fun i hi => ?_
  have hi' : i < n := by simpa using hi
  rw [((it_ins l t ht i).1 (ceE_ge (by omega) h)).1]

theorem itS_front (f : Sw → Sw) : ∀ n q, itS f (n + 1) q = itS f n (f q)
  | 0, q => rfl
  | n + 1, q => by
    show f (itS f (n + 1) q) = f (itS f n (f q))
    rw [itS_front f n q]
theorem vls_front {α : Type} (v : Sw → α) (f : Sw → Sw) (n : Nat) (q : Sw) : vls v f (n + 1) q = v q :: vls v f n (f q) := by
  unfold vls
  rw [List.range_succ_eq_map, List.map_cons, List.map_map]
  refine congrArg (v q :: ·) (List.map_congr_left fun i _ => ?_)
  show v (itS f (i + 1) q) = _
  rw [itS_front]
/-- References: as many, or the first that has no form. -/
theorem it_refs (l : List UInt8) : ∀ n q t, Rq q t → ((rfs l n t).1 = none → (itS (rfS l) n q).2 = 3) ∧ ∀ rs, (rfs l n t).1 = some rs → Rq (itS (rfS l) n q) (rfs l n t).2 ∧ ((rfs l n t).2.2 = true → rs = vls (rfV l) (rfS l) n q)
  | 0, q, t, h => ⟨(fun e => by cases e), (fun rs e => by injection e with e; subst e; exact ⟨h, fun _ => rfl⟩)⟩
  | n + 1, q, t, h => by
    have h1 := h.next (l := l) 1
    have h2 := h1.next (l := l) 1
    have hw : nvS l (wdS l (wdS l q 1) 1) 1 = tkW l t := h2.val 1
    rw [itS_front, vls_front]
    by_cases hf : 1 < tkW l t
    · have hr : rfs l (n + 1) t = (none, t3 l t) := by rw [rfs, if_pos hf]
      rw [hr]
      refine ⟨fun _ => ?_, (fun rs e => by cases e)⟩
      have h3 : (rfS l q).2 = 3 := by
        show (fgS l (wdS l (wdS l q 1) 1)).2 = 3
        have hg : (pgS l (pgS l (pgS l t 1) 1) 1).2 = true := by
          cases hg : (pgS l (pgS l (pgS l t 1) 1) 1).2
          · have h0 : tkW l t = 0 := rd_bad (l := l) (s := pgS l (pgS l t 1) 1) (k := 1) hg
            omega
          · rfl
        have h4 := (h2.next (l := l) 1).good hg
        unfold fgS
        rw [if_pos (by rw [hw]; exact hf), h4]
        rfl
      rw [itS_stk (rfS_stk l) n _ (by rw [h3]; decide), h3]
    · have hr : rfs l (n + 1) t = ((rfs l n (t3 l t)).1.map (tkX l t :: ·), (rfs l n (t3 l t)).2) := by rw [rfs, if_neg hf]
      have hn : Rq (rfS l q) (t3 l t) := by
        show Rq (fgS l (wdS l (wdS l q 1) 1)) _
        unfold fgS
        rw [if_neg (by rw [hw]; exact hf)]
        exact h2.next 1
      have ih := it_refs l n (rfS l q) (t3 l t) hn
      rw [hr]
      refine ⟨(fun e => ih.1 (by simpa using e)), fun rs e => ?_⟩
      cases hx : (rfs l n (t3 l t)).1 with
      | none => rw [hx] at e; cases e
      | some ys =>
        rw [hx] at e
        injection e with e
        subst e
        obtain ⟨h5, h6⟩ := ih.2 ys hx
        refine ⟨h5, fun hg => ?_⟩
        rw [h6 hg]
        refine congrArg (· :: _) ?_
        show (rvS l t 1, rvS l (stN l t 1) 1, tkW l t == 1) = (nvS l q 1, nvS l (wdS l q 1) 1, fgV l (wdS l (wdS l q 1) 1))
        rw [h.val, h1.val]
        refine congrArg (fun z => (rvS l t 1, rvS l (stN l t 1) 1, z)) ?_
        unfold fgV
        rw [hw, beq_dec]

/-- What the document reads, part by part. -/
def dW4 (k : Nat) : Int := if k = 0 then 2 else 1
def dS1 (l : List UInt8) (s : Std) : Std := pgS l s 1
def dN1 (l : List UInt8) (s : Std) : Nat := (rvS l (dS1 l s) 1).toNat
def dS2 (l : List UInt8) (s : Std) : Std := stQ (fun _ => 1) l (pgS l (dS1 l s) 1) (dN1 l s)
def dKs (l : List UInt8) (s : Std) : List Int := vlQ (fun _ => 1) l (pgS l (dS1 l s) 1) (dN1 l s)
def dkv (l : List UInt8) (s : Std) (j : Nat) : Int := rvS l (stQ dW4 l (dS2 l s) j) (dW4 j)
def dS3 (l : List UInt8) (s : Std) : Std := stQ dW4 l (dS2 l s) 4
def dN2 (l : List UInt8) (s : Std) : Nat := (rvS l (dS3 l s) 1).toNat
def dS4 (l : List UInt8) (s : Std) : Std := stQ (fun _ => 3) l (pgS l (dS3 l s) 1) (dN2 l s)
def dVs (l : List UInt8) (s : Std) : List Int := vlQ (fun _ => 3) l (pgS l (dS3 l s) 1) (dN2 l s)
def dLs (l : List UInt8) (s : Std) : List Ln := (dVs l s).map fun v => (v / 65536, v % 65536)
def hdE (l : List UInt8) (s : Std) : Int := if 1 < dkv l s 1 then 3 else if (dS4 l s).2 = false then 5 else 0
def hdY (l : List UInt8) (s : Std) : Fn := ⟨rvS l s 1, dKs l s, dkv l s 0, decide (dkv l s 1 = 1), dkv l s 2, dkv l s 3, dLs l s, [], []⟩
def hdF (l : List UInt8) (s : Std) : Fn := if hdE l s = 0 then hdY l s else fn0
def hdS (l : List UInt8) (s : Std) : Std := if 1 < dkv l s 1 then dS3 l s else dS4 l s
def dN3 (l : List UInt8) (s : Std) : Nat := (rvS l (dS4 l s) 1).toNat
def dS5 (l : List UInt8) (s : Std) : Std := pgS l (dS4 l s) 1
noncomputable def dS6 (l : List UInt8) (s : Std) : Std := stI l (dS5 l s) (dN3 l s)
noncomputable def dRf (l : List UInt8) (s : Std) : Option (List Rl) × Std := rfs l (rvS l (dS6 l s) 1).toNat (pgS l (dS6 l s) 1)
noncomputable def rqE (l : List UInt8) (s : Std) : Int := if hdE l s ≠ 0 then hdE l s else if ceE l (dS5 l s) (dN3 l s) ≠ 0 then ceE l (dS5 l s) (dN3 l s) else rrE (dRf l s)
noncomputable def rqV (l : List UInt8) (s : Std) : Fn := if rqE l s = 0 then { hdY l s with cs := ciV l (dS5 l s) (dN3 l s), rs := rrL (dRf l s) } else fn0
theorem hdE_ok {l : List UInt8} {s : Std} (h : hdE l s = 0) : ¬ 1 < dkv l s 1 ∧ (dS4 l s).2 = true := by
  unfold hdE at h
  split at h
  · cases h
  · split at h
    · cases h
    · next h2 => exact ⟨by assumption, by simpa using h2⟩

theorem stk9 {l : List UInt8} {q : Sw} (h : (sevS inS5 l q).2 ≠ 0) : (sevS rfS l (sevS inS5 l q)).2 = (sevS inS5 l q).2 := sevS_stk l (rfS_stk l) _ h
theorem get_alike (l : List UInt8) (s : Std) (hs : s.2 = true) : geE l s = rqE l s ∧ geV l s = rqV l s ∧ (geE l s = 0 → geS l s = (dRf l s).2) := by
  have r0 : Rq (s, 0) s := .inl ⟨rfl, hs⟩
  have r1 : Rq (fq1 l (s, 0)) (dS1 l s) := r0.next 1
  have n1 : (nvS l (fq1 l (s, 0)) 1).toNat = dN1 l s := by rw [r1.val]; rfl
  have r2 : Rq (fq2 l (s, 0)) (dS2 l s) := by
    unfold fq2 sevS
    rw [n1]
    exact it_nums l _ _ (r1.next 1) _
  have v2 : sevV nmV1 nmS1 l (fq1 l (s, 0)) = dKs l s := by
    unfold sevV
    rw [n1]
    exact vl_nums l _ _ (r1.next 1) _
  have r3 : Rq (fq3 l (s, 0)) (stQ dW4 l (dS2 l s) 1) := r2.next 2
  have v3 : nvS l (fq2 l (s, 0)) 2 = dkv l s 0 := r2.val 2
  have w3 : nvS l (fq3 l (s, 0)) 1 = dkv l s 1 := r3.val 1
  have hstk : ∀ q, q.2 ≠ 0 → (sevS rfS l (sevS inS5 l (sevS lnS l (wdS l (wdS l q 1) 1)))).2 = q.2 := fun q h =>
    ((sevS_stk l (rfS_stk l)).comp ((sevS_stk l (inS5_stk l)).comp ((sevS_stk l (lnS_stk l)).comp ((wdS_stk l 1).comp (wdS_stk l 1))))) q h
  have h9 : fq9 l (s, 0) = sevS rfS l (sevS inS5 l (sevS lnS l (wdS l (wdS l (fq4 l (s, 0)) 1) 1))) := rfl
  by_cases hf : 1 < dkv l s 1
  · have hg : (stQ dW4 l (dS2 l s) 2).2 = true := by
      cases hg : (stQ dW4 l (dS2 l s) 2).2
      · have h0 : dkv l s 1 = 0 := rd_bad (l := l) (s := stQ dW4 l (dS2 l s) 1) (k := 1) hg
        omega
      · rfl
    have e4 : (fq4 l (s, 0)).2 = 3 := by
      unfold fq4 fgS
      rw [if_pos (by rw [w3]; exact hf)]
      have h4 := (r3.next (l := l) 1).good hg
      rw [h4]
      rfl
    have e9 : (fq9 l (s, 0)).2 = 3 := by rw [h9, hstk _ (by rw [e4]; decide), e4]
    have he : geE l s = 3 := e9
    have hd : hdE l s = 3 := by unfold hdE; rw [if_pos hf]
    have hr : rqE l s = 3 := by unfold rqE; rw [hd]; rfl
    refine ⟨by rw [he, hr], ?_, fun h => by rw [he] at h; cases h⟩
    unfold geV rqV
    rw [e9, hr]
    rfl
  · have r4 : Rq (fq4 l (s, 0)) (stQ dW4 l (dS2 l s) 2) := by
      unfold fq4 fgS
      rw [if_neg (by rw [w3]; exact hf)]
      exact r3.next 1
    have r5 : Rq (fq5 l (s, 0)) (stQ dW4 l (dS2 l s) 3) := r4.next 1
    have r6 : Rq (fq6 l (s, 0)) (dS3 l s) := r5.next 1
    have v5 : nvS l (fq4 l (s, 0)) 1 = dkv l s 2 := r4.val 1
    have v6 : nvS l (fq5 l (s, 0)) 1 = dkv l s 3 := r5.val 1
    have n6 : (nvS l (fq6 l (s, 0)) 1).toNat = dN2 l s := by rw [r6.val]; rfl
    have r7 : Rq (fq7 l (s, 0)) (dS4 l s) := by
      unfold fq7 sevS
      rw [n6]
      exact it_lines l _ _ (r6.next 1) _
    by_cases hb : (dS4 l s).2 = false
    · have e7 := r7.bad hb
      have e9 : (fq9 l (s, 0)).2 = 5 := by
        show (sevS rfS l (sevS inS5 l (fq7 l (s, 0)))).2 = 5
        have h8 : (sevS inS5 l (fq7 l (s, 0))).2 = 5 := by rw [sevS_stk l (inS5_stk l) _ (by rw [e7]; decide), e7]
        rw [sevS_stk l (rfS_stk l) _ (by rw [h8]; decide), h8]
      have he : geE l s = 5 := e9
      have hd : hdE l s = 5 := by unfold hdE; rw [if_neg hf, if_pos hb]
      have hr : rqE l s = 5 := by unfold rqE; rw [hd]; rfl
      refine ⟨by rw [he, hr], ?_, fun h => by rw [he] at h; cases h⟩
      unfold geV rqV
      rw [e9, hr]
      rfl
    · have hg : (dS4 l s).2 = true := by simpa using hb
      have hd : hdE l s = 0 := by unfold hdE; rw [if_neg hf, if_neg hb]
      have q7 := r7.good hg
      have v7 : sevV lnV lnS l (fq6 l (s, 0)) = dLs l s := by
        unfold sevV
        rw [n6]
        exact vl_lines l _ _ (r6.next 1) _ hg
      have n7 : (nvS l (fq7 l (s, 0)) 1).toNat = dN3 l s := by rw [q7]; rfl
      have r7' : Rq (wdS l (fq7 l (s, 0)) 1) (dS5 l s) := r7.next 1
      cases hg5 : (dS5 l s).2 with
      | false =>
        have h0 : dN3 l s = 0 := by unfold dN3; rw [rd_bad (l := l) (s := dS4 l s) (k := 1) hg5]; rfl
        have e8 : (fq8 l (s, 0)).2 = 5 := by
          unfold fq8 sevS
          rw [n7, h0]
          exact r7'.bad hg5
        have e9 : (fq9 l (s, 0)).2 = 5 := by
          unfold fq9
          rw [sevS_stk l (rfS_stk l) _ (by rw [e8]; decide), e8]
        have he : geE l s = 5 := e9
        have hs6 : dS6 l s = dS5 l s := by unfold dS6; rw [h0]; rfl
        have hrf : rrE (dRf l s) = 5 := by
          unfold dRf
          rw [hs6, (pg_bad hg5 1).2]
          show rrE (some [], pgS l (dS5 l s) 1) = 5
          unfold rrE
          dsimp only
          rw [if_pos (pg_bad hg5 1).1]
        have hr : rqE l s = 5 := by unfold rqE; rw [hd, h0]; simpa [ceE] using hrf
        refine ⟨by rw [he, hr], ?_, fun h => by rw [he] at h; cases h⟩
        unfold geV rqV
        rw [e9, hr]
        rfl
      | true =>
        have q5 := r7'.good hg5
        have hi := it_ins l (dS5 l s) hg5 (dN3 l s)
        by_cases hc : ceE l (dS5 l s) (dN3 l s) = 0
        · have q8 : fq8 l (s, 0) = (dS6 l s, 0) := by
            unfold fq8 sevS
            rw [n7, q5]
            exact (hi.1 hc).1
          have g6 : (dS6 l s).2 = true := (hi.1 hc).2
          have v8 : sevV inV5 inS5 l (fq7 l (s, 0)) = ciV l (dS5 l s) (dN3 l s) := by
            unfold sevV
            rw [n7, q5]
            exact vl_ins l _ hg5 _ hc
          have r8 : Rq (dS6 l s, 0) (dS6 l s) := .inl ⟨rfl, g6⟩
          have hx := it_refs l (rvS l (dS6 l s) 1).toNat _ _ (r8.next (l := l) 1)
          have h9' : fq9 l (s, 0) = itS (rfS l) (rvS l (dS6 l s) 1).toNat (wdS l (dS6 l s, 0) 1) := by
            unfold fq9 sevS
            rw [q8]
            rfl
          have hr : rqE l s = rrE (dRf l s) := by unfold rqE; rw [hd, hc]; rfl
          have hrr : dRf l s = rfs l (rvS l (dS6 l s) 1).toNat (pgS l (dS6 l s) 1) := rfl
          rw [← hrr] at hx
          cases hn : (dRf l s).1 with
          | none =>
            have e9 : (fq9 l (s, 0)).2 = 3 := by rw [h9']; exact hx.1 hn
            have he : geE l s = 3 := e9
            have hr3 : rqE l s = 3 := by rw [hr]; unfold rrE; rw [hn]
            refine ⟨by rw [he, hr3], ?_, fun h => by rw [he] at h; cases h⟩
            unfold geV rqV
            rw [e9, hr3]
            rfl
          | some rs =>
            obtain ⟨r9, v9⟩ := hx.2 rs hn
            rw [← h9'] at r9
            cases g9 : (dRf l s).2.2 with
            | false =>
              have e9 := r9.bad g9
              have he : geE l s = 5 := e9
              have hr5 : rqE l s = 5 := by rw [hr]; unfold rrE; rw [hn]; dsimp only; rw [if_pos g9]
              refine ⟨by rw [he, hr5], ?_, fun h => by rw [he] at h; cases h⟩
              unfold geV rqV
              rw [e9, hr5]
              rfl
            | true =>
              have q9 := r9.good g9
              have he : geE l s = 0 := by unfold geE; rw [q9]
              have hr0' : rrE (dRf l s) = 0 := by unfold rrE; rw [hn]; dsimp only; rw [if_neg (by rw [g9]; decide)]
              have hr0 : rqE l s = 0 := by rw [hr, hr0']
              refine ⟨by rw [he, hr0], ?_, fun _ => by unfold geS; rw [q9]⟩
              have hrl : rrL (dRf l s) = rs := by unfold rrL; rw [if_pos hr0', hn]; rfl
              have v9' : sevV rfV rfS l (fq8 l (s, 0)) = rs := by
                unfold sevV
                rw [q8]
                exact (v9 g9).symm
              unfold geV rqV
              rw [hr0, q9, if_pos rfl, if_pos rfl]
              unfold fuV
              rw [v2, v3, v5, v6, v7, v8, v9', hrl]
              have hfl : fgV l (fq3 l (s, 0)) = decide (dkv l s 1 = 1) := by unfold fgV; rw [w3]
              rw [hfl]
              rfl
        · have e8 : (fq8 l (s, 0)).2 = ceE l (dS5 l s) (dN3 l s) := by
            unfold fq8 sevS
            rw [n7, q5]
            exact hi.2 hc
          have e9 : (fq9 l (s, 0)).2 = ceE l (dS5 l s) (dN3 l s) := by
            unfold fq9
            rw [sevS_stk l (rfS_stk l) _ (by rw [e8]; exact hc), e8]
          have he : geE l s = ceE l (dS5 l s) (dN3 l s) := e9
          have hr : rqE l s = ceE l (dS5 l s) (dN3 l s) := by unfold rqE; rw [hd]; simp [hc]
          refine ⟨by rw [he, hr], ?_, fun h => by rw [he] at h; exact absurd h hc⟩
          unfold geV rqV
          rw [e9, hr, if_neg hc, if_neg hc]
end Go.Proofs.YtbknmapkdjmcjaaGreatDoor.By

namespace Go.Proofs.YtbknmapkdjmcjaaGreatDoor.By
open Go.RowKit
open Mem Gm Rf
set_option linter.unusedSimpArgs false
set_option linter.unusedVariables false

theorem gdV_ok {l : List UInt8} {s : Std} (h : rrE (gR l s) = 0) : gdV l s = ⟨rvS l s 1, wds l (gN1 l s) (gS2 l s), rrL (gR l s), 0⟩ := by
  unfold rrL
  rw [if_pos h]
  unfold rrE at h
  unfold gdV
  cases h1 : (gR l s).1 with
  | none => rw [h1] at h; simp at h
  | some rs =>
    rw [h1] at h
    by_cases h2 : (gR l s).2.2 = false
    · simp [h2] at h
    · simp [h2]
theorem gdV_no {l : List UInt8} {s : Std} (h : rrE (gR l s) ≠ 0) : gdV l s = ⟨0, [], [], rrE (gR l s)⟩ ∧ rrL (gR l s) = [] := by
  refine ⟨?_, by unfold rrL; rw [if_neg h]⟩
  unfold rrE at h ⊢
  unfold gdV
  cases h1 : (gR l s).1 with
  | none => rfl
  | some rs =>
    rw [h1] at h
    by_cases h2 : (gR l s).2.2 = false
    · simp [h2]
    · simp [h2] at h
def RgAns (d : Gd) (s5 : Std) (w : World) (A : Option Addr) (n c : Nat) (e : Ending) (w' : World) : Prop :=
  ∃ (st : Std) (AW : Option Addr) (cW : Nat) (AR : Option Addr) (cR : Nat), e = .returned (.tuple #[.agg (rdC A n c st), .agg #[.int .i64 d.kd, .slice AW d.ws.length cW, .slice AR d.rs.length cR], .int .i64 d.er]) ∧ IW w' (.slice AW d.ws.length cW) d.ws ∧ RlL w' AR d.rs.length cR d.rs ∧ (d.er = 0 → st = s5) ∧ Below w.heap.size w w'
theorem wst_le {l : List UInt8} : ∀ (q : Nat) (s : Std), s.1 ≤ l.length → (wst l q s).1 ≤ l.length
  | 0, s, h => h
  | q + 1, s, h => wst_le q _ (pgS_le h 8)
theorem vl2 (l : List UInt8) (s : Std) : vlN l s 2 = [rvS l s 1, rvS l (pgS l s 1) 1] := rfl

theorem RlL.keepA {w w' : World} {A : Option Addr} {n c : Nat} {l : List Rl} (h : RlL w A n c l) (hk : ∀ ad, A = some ad → w'.heap[ad.block]? = w.heap[ad.block]?) (hs : w.heap.size ≤ w'.heap.size) : RlL w' A n c l :=
  ⟨h.1, h.2.1, h.2.2.1, h.2.2.2.1, fun i x hi => by
    obtain ⟨ad, e, hb, hc⟩ := h.2.2.2.2 i x hi
    refine ⟨ad, e, by omega, fun j u hu => ?_⟩
    exact (World.cell?_of_block (a := ((ad.add (i * 3)).add j)) (by rw [add_block, add_block]; exact hk ad e)).trans (hc j u hu)⟩
/-- How things stand while the document's data are got. -/
def GJ (w : World) (A : Option Addr) (n c : Nat) (D : Nat) (kd : Int) (st : Std) (v1 v2 : Value) (wr : World) : Prop :=
  (Blk wr w.heap.size 42 (rdC A n c st) ∧ Blk wr (w.heap.size + 1) 42 #[.slice none 0 0, .int .i64 0, .bool false] ∧ Blk wr (w.heap.size + 2) 137 #[.int .i64 0, .slice none 0 0, .slice none 0 0] ∧ Blk wr D 137 #[.int .i64 kd, v1, v2]) ∧ Below w.heap.size w wr
theorem GJ.below {w : World} {A : Option Addr} {n c D : Nat} {kd : Int} {st : Std} {v1 v2 : Value} {wr w' : World} (hD : w.heap.size + 2 < D) (h : GJ w A n c D kd st v1 v2 wr) (hb : Below (D + 1) wr w') : GJ w A n c D kd st v1 v2 w' :=
  ⟨⟨h.1.1.below hb (by omega), h.1.2.1.below hb (by omega), h.1.2.2.1.below hb (by omega), h.1.2.2.2.below hb (by omega)⟩, h.2.trans (hb.mono (by omega))⟩
theorem GJ.up {w : World} {A : Option Addr} {n c D : Nat} {kd : Int} {st : Std} {v1 v2 : Value} {wr w' : World} (hD : w.heap.size + 2 < D) (h : GJ w A n c D kd st v1 v2 wr) (hb : Below wr.heap.size wr w') : GJ w A n c D kd st v1 v2 w' :=
  h.below hD (hb.mono (by have := h.1.2.2.2.lt; omega))
theorem GJ.rd {w : World} {A : Option Addr} {n c D : Nat} {kd : Int} {st : Std} {v1 v2 : Value} {wr : World} (hD : w.heap.size + 2 < D) (h : GJ w A n c D kd st v1 v2 wr) (t : Std) (nb : Bool) (hnb : (!t.2) = nb) :
    GJ w A n c D kd t v1 v2 (((wr.setCell ⟨w.heap.size, 0, none⟩ (.slice A n c)).setCell ⟨w.heap.size, 1, none⟩ (.int .i64 (t.1 : Int))).setCell ⟨w.heap.size, 2, none⟩ (.bool nb)) := by
  subst hnb
  exact ⟨⟨blk_put3 h.1.1 _ _ _, blk_away3 h.1.2.1 _ (by omega) _ _ _, blk_away3 h.1.2.2.1 _ (by omega) _ _ _, blk_away3 h.1.2.2.2 _ (by omega) _ _ _⟩, below_put3 h.2 _ (Nat.le_refl _) _ _ _⟩
/-- The answers' cells were set. -/
theorem GJ.put {w : World} {A : Option Addr} {n c D : Nat} {kd : Int} {st : Std} {v1 v2 : Value} {wr : World} (h : GJ w A n c D kd st v1 v2 wr) (a b d x y z : Value) :
    Blk ((((((wr.setCell ⟨w.heap.size + 1, 0, none⟩ a).setCell ⟨w.heap.size + 1, 1, none⟩ b).setCell ⟨w.heap.size + 1, 2, none⟩ d).setCell ⟨w.heap.size + 1 + 1, 0, none⟩ x).setCell ⟨w.heap.size + 1 + 1, 1, none⟩ y).setCell ⟨w.heap.size + 1 + 1, 2, none⟩ z) (w.heap.size + 1) 42 #[a, b, d] ∧
    Blk ((((((wr.setCell ⟨w.heap.size + 1, 0, none⟩ a).setCell ⟨w.heap.size + 1, 1, none⟩ b).setCell ⟨w.heap.size + 1, 2, none⟩ d).setCell ⟨w.heap.size + 1 + 1, 0, none⟩ x).setCell ⟨w.heap.size + 1 + 1, 1, none⟩ y).setCell ⟨w.heap.size + 1 + 1, 2, none⟩ z) (w.heap.size + 1 + 1) 137 #[x, y, z] ∧
    Below w.heap.size w ((((((wr.setCell ⟨w.heap.size + 1, 0, none⟩ a).setCell ⟨w.heap.size + 1, 1, none⟩ b).setCell ⟨w.heap.size + 1, 2, none⟩ d).setCell ⟨w.heap.size + 1 + 1, 0, none⟩ x).setCell ⟨w.heap.size + 1 + 1, 1, none⟩ y).setCell ⟨w.heap.size + 1 + 1, 2, none⟩ z) ∧
    ∀ gg, gg ≠ w.heap.size + 1 → gg ≠ w.heap.size + 1 + 1 → ((((((wr.setCell ⟨w.heap.size + 1, 0, none⟩ a).setCell ⟨w.heap.size + 1, 1, none⟩ b).setCell ⟨w.heap.size + 1, 2, none⟩ d).setCell ⟨w.heap.size + 1 + 1, 0, none⟩ x).setCell ⟨w.heap.size + 1 + 1, 1, none⟩ y).setCell ⟨w.heap.size + 1 + 1, 2, none⟩ z).heap[gg]? = wr.heap[gg]? :=
  ⟨blk_away3 (blk_put3 h.1.2.1 _ _ _) _ (by omega) _ _ _, blk_put3 (blk_away3 h.1.2.2.1 _ (by omega) _ _ _) _ _ _, below_put3 (below_put3 h.2 _ (by omega) _ _ _) _ (by omega) _ _ _, fun gg h1 h2 => (heap_put3 _ _ gg h2 _ _ _).trans (heap_put3 _ _ gg h1 _ _ _)⟩
theorem GJ.set1 {w : World} {A : Option Addr} {n c D : Nat} {kd : Int} {st : Std} {v1 v2 : Value} {wr : World} (hD : w.heap.size + 2 < D) (h : GJ w A n c D kd st v1 v2 wr) (v : Value) : GJ w A n c D kd st v v2 (wr.setCell ⟨D, 1, none⟩ v) :=
  ⟨⟨blk_away h.1.1 ⟨D, 1, none⟩ v (by show w.heap.size ≠ D; omega), blk_away h.1.2.1 ⟨D, 1, none⟩ v (by show w.heap.size + 1 ≠ D; omega), blk_away h.1.2.2.1 ⟨D, 1, none⟩ v (by show w.heap.size + 2 ≠ D; omega), h.1.2.2.2.stored 1 v⟩, h.2.setCell (p := ⟨D, 1, none⟩) (by show w.heap.size ≤ D; omega) v⟩
theorem GJ.set2 {w : World} {A : Option Addr} {n c D : Nat} {kd : Int} {st : Std} {v1 v2 : Value} {wr : World} (hD : w.heap.size + 2 < D) (h : GJ w A n c D kd st v1 v2 wr) (v : Value) : GJ w A n c D kd st v1 v (wr.setCell ⟨D, 2, none⟩ v) :=
  ⟨⟨blk_away h.1.1 ⟨D, 2, none⟩ v (by show w.heap.size ≠ D; omega), blk_away h.1.2.1 ⟨D, 2, none⟩ v (by show w.heap.size + 1 ≠ D; omega), blk_away h.1.2.2.1 ⟨D, 2, none⟩ v (by show w.heap.size + 2 ≠ D; omega), h.1.2.2.2.stored 2 v⟩, h.2.setCell (p := ⟨D, 2, none⟩) (by show w.heap.size ≤ D; omega) v⟩

set_option maxRecDepth 100000 in
set_option maxHeartbeats 2000000 in
theorem rgetD_any (w : World) (A : Option Addr) (n c : Nat) (l : List UInt8) (s : Std) (hn : l.length = n) (hl : n ≤ 1000000) (hs : s.1 ≤ n) (hv : SlV w w.heap.size (.slice A n c) (u8s l)) :
    Calls Tryz.prog 204 #[.agg (rdC A n c s)] w (RgAns (gdV l s) (gR l s).2 w A n c) := by
  obtain ⟨i0, hi, hz0, hz1, hz2⟩ := info_parts info2
  obtain ⟨kd, hkd⟩ : ∃ kd, rvS l s 1 = kd := ⟨_, rfl⟩
  obtain ⟨N1, hN1⟩ : ∃ N, gN1 l s = N := ⟨_, rfl⟩
  have hN1I : rvS l (pgS l s 1) 1 = (N1 : Int) := by have := num_one l (pgS l s 1); unfold gN1 at hN1; omega
  have hN1B : N1 ≤ 255 := by have := num_one l (pgS l s 1); omega
  obtain ⟨s2, hs2⟩ : ∃ x, gS2 l s = x := ⟨_, rfl⟩
  have HL2 := Lib.hid (show s2.1 ≤ n by rw [← hs2, ← hn]; exact stN_le (s := s) (by omega) 2)
  obtain ⟨o, ho⟩ : ∃ o, gR l s = o := ⟨_, rfl⟩
  have HO := Lib.hid (show rfs l (rvS l (wst l N1 s2) 1).toNat (pgS l (wst l N1 s2) 1) = o from by rw [← ho]; unfold gR gN2 gS3; rw [hN1, hs2])
  have HGD := Lib.hid (show (rrE o = 0 → gdV l s = ⟨kd, wds l N1 s2, rrL o, 0⟩) ∧ (rrE o ≠ 0 → gdV l s = ⟨0, [], [], rrE o⟩ ∧ rrL o = []) from by
    rw [← ho, ← hkd, ← hN1, ← hs2]; exact ⟨gdV_ok, gdV_no⟩)
  have HNS := Lib.hid (fun W (hb : Below w.heap.size w W) => nums_any 2 (by decide) (W.alloc (.cells #[.int .i64 1, .int .i64 1] 3)) A n c W.heap.size l s hn hl hs ((hv.below (to_ hb (alloc_ _ _))).more (to_ hb (alloc_ _ _)).size) (by simp) (fun k hk => by
    rw [(Blk.new W _ _).cell]
    match k, hk with
    | 0, _ => rfl
    | 1, _ => rfl))
  have HNM := Lib.hid (show ∀ W (st : Std), Below w.heap.size w W → st.1 ≤ n → Calls Tryz.prog 86 #[.agg #[.slice A n c, .int .i64 (st.1 : Int), .bool (!st.2)], .int .i64 8, .bool false] W fun e w' => e = .returned (.tuple #[.agg #[.slice A n c, .int .i64 ((pgS l st 8).1 : Int), .bool (!(pgS l st 8).2)], .int .i64 (rvS l st 8)]) ∧ Below W.heap.size W w' from fun W st hb hst => by
    have := rnum_any W w.heap.size A c l st.1 st.2 false 8 (by omega) (by omega) (by rw [hn]; exact hv.below hb)
    rw [hn] at this; exact this)
  have HGR := Lib.hid (fun W (hb : Below w.heap.size w W) (st : Std) (hst : st.1 ≤ n) => rgetR_any W A n c l st hn hl hst ((hv.below hb).more hb.size))
  have HNL := Lib.hid hn
  rw [ho]
  have hv2 : stN l s 2 = s2 := hs2
  have hvl : vlN l s 2 = [kd, (N1 : Int)] := by rw [vl2, hkd, hN1I]
  obtain ⟨nb, hnb⟩ : ∃ b, (!s2.2) = b := ⟨_, rfl⟩
  have HNB := Lib.hid hnb
  unfold NmAns rdC at HNS
  rw [hv2, hvl, hnb] at HNS
  obtain ⟨W0, hW0⟩ : ∃ W0, ((w.alloc (.cells #[.slice A n c, .int .i64 (s.1 : Int), .bool (!s.2)] 42)).alloc (.cells #[.slice none 0 0, .int .i64 0, .bool false] 42)).alloc (.cells #[.int .i64 0, .slice none 0 0, .slice none 0 0] 137) = W0 := ⟨_, rfl⟩
  have HS0 := Lib.hid (show Blk W0 w.heap.size 42 #[.slice A n c, .int .i64 (s.1 : Int), .bool (!s.2)] ∧ Blk W0 (w.heap.size + 1) 42 #[.slice none 0 0, .int .i64 0, .bool false] ∧ Blk W0 (w.heap.size + 2) 137 #[.int .i64 0, .slice none 0 0, .slice none 0 0] ∧ Below w.heap.size w W0 from by
    rw [← hW0]
    refine ⟨((Blk.new w _ _).alloc _).alloc _, ?_, ?_, to_ (to_ (alloc_ _ _) (alloc_ _ _)) (alloc_ _ _)⟩
    · have := Blk.new (w.alloc (.cells #[.slice A n c, .int .i64 (s.1 : Int), .bool (!s.2)] 42)) 42 #[.slice none 0 0, .int .i64 0, .bool false]
      rw [World.size_alloc] at this
      exact this.alloc _
    · have := Blk.new ((w.alloc (.cells #[.slice A n c, .int .i64 (s.1 : Int), .bool (!s.2)] 42)).alloc (.cells #[.slice none 0 0, .int .i64 0, .bool false] 42)) 137 #[.int .i64 0, .slice none 0 0, .slice none 0 0]
      rwa [World.size_alloc, World.size_alloc] at this)
  clear hv hkd hN1 hN1I hs2 hs ho hv2 hvl hnb
  obtain ⟨x0, x1, x2⟩ := blk_ce3 HS0.out.1
  unfold rdC
  go_enter Tryz.func204, Tryz.ntmps204
  go_wp2_with fail
  clear hW0 x0 x1 x2
  refine (HNS.out W0 HS0.out.2.2.2).mono ?_
  rintro e w1 ⟨A2, c2, rfl, h2, b1, ha2⟩
  have hb1 : Below W0.heap.size W0 w1 := to_ (alloc_ _ _) b1
  have HR1 := Lib.hid (HS0.out.1.below hb1 HS0.out.1.lt)
  have HT1 := Lib.hid (HS0.out.2.1.below hb1 HS0.out.2.1.lt)
  have HU1 := Lib.hid (HS0.out.2.2.1.below hb1 HS0.out.2.2.1.lt)
  have HB1 := Lib.hid (to_ HS0.out.2.2.2 hb1)
  obtain ⟨ad, hA2, hc⟩ : ∃ ad, A2 = some ad ∧ ∀ j, j < 2 → w1.cell? (ad.add j) = some (.int .i64 (el [kd, (N1 : Int)] j)) := by
    rcases ints_row (A := A2) (c := c2) (l := [kd, (N1 : Int)]) h2 with ⟨e, _⟩ | ⟨ad, e, _, hc⟩
    · cases e
    · exact ⟨ad, e, hc⟩
  have HAD := Lib.hid (show w.heap.size + 2 < ad.block ∧ ad.block < w1.heap.size from ⟨by have h3 := ha2 ad hA2; have h4 := HS0.out.2.2.1.lt; simp at h3; omega, by have := World.block_lt_of_cell? w1 _ (hc 0 (by decide)); exact this⟩)
  subst hA2
  obtain ⟨x0, x1, x2⟩ := blk_ce3 HR1.out
  obtain ⟨f0, f1, f2⟩ := blk_fr3 HR1.out
  clear b1 h2 ha2 hb1
  obtain ⟨wg, hwg⟩ : ∃ wg, ((w1.setCell ⟨w.heap.size, 0, none⟩ (.slice A n c)).setCell ⟨w.heap.size, 1, none⟩ (.int .i64 (s2.1 : Int))).setCell ⟨w.heap.size, 2, none⟩ (.bool nb) = wg := ⟨_, rfl⟩
  have hsg : wg.heap.size = w1.heap.size := by rw [← hwg]; simp [World.setCell]
  have HK := Lib.hid (show ∀ p : Addr, p.block ≠ w.heap.size → wg.cell? p = w1.cell? p from fun p hp => World.cell?_of_block (by rw [← hwg]; exact heap_put3 w1 w.heap.size p.block hp _ _ _))
  have k0 : wg.cell? ad = some (.int .i64 kd) := by have := hc 0 (by decide); rw [show ad.add 0 = ad from by unfold Addr.add; simp] at this; rw [HK.out _ (by have := HAD.out; omega)]; exact this
  have k1 : wg.cell? ⟨ad.block, ad.off + 1, none⟩ = some (.int .i64 (N1 : Int)) := by have := hc 1 (by decide); rw [add_field _ 1 (by decide)] at this; rw [HK.out _ (by show ad.block ≠ _; have := HAD.out; omega)]; exact this
  obtain ⟨D, hDD⟩ : ∃ D, wg.heap.size = D := ⟨_, rfl⟩
  obtain ⟨W2, hW2⟩ : ∃ W2, wg.alloc (.cells #[.int .i64 kd, .slice none 0 0, .slice none 0 0] 137) = W2 := ⟨_, rfl⟩
  have HD := Lib.hid (show w.heap.size + 2 < D by rw [← hDD, hsg]; have := HAD.out; omega)
  have HDA := Lib.hid (show ad.block < D by rw [← hDD, hsg]; have := HAD.out; omega)
  have HGI := Lib.hid (show GJ w A n c D kd s2 (.slice none 0 0) (.slice none 0 0) W2 from by
    rw [← hW2, ← hDD]
    refine ⟨⟨?_, ?_, ?_, Blk.new wg _ _⟩, to_ (by rw [← hwg]; exact below_put3 HB1.out _ (Nat.le_refl _) _ _ _) (alloc_ _ _)⟩
    · rw [rdC_eq, HNB.out, ← hwg]; exact (blk_put3 HR1.out _ _ _).alloc _
    · rw [← hwg]; exact (blk_away3 HT1.out _ (by omega) _ _ _).alloc _
    · rw [← hwg]; exact (blk_away3 HU1.out _ (by omega) _ _ _).alloc _)
  have HK1 := Lib.hid (show W2.cell? ⟨ad.block, ad.off + 1, none⟩ = some (.int .i64 (N1 : Int)) from by rw [← hW2]; exact ((alloc_ wg _).cell (World.block_lt_of_cell? _ _ k1)).trans k1)
  have HW2 := Lib.hid hW2
  have HDD := Lib.hid hDD
  clear hc hsg hW2 hDD
  go_wp2_with fail
  rw [HW2.out, HDD.out]
  clear HW2 HDD hwg x0 x1 x2 f0 f1 f2 k0 k1
  go_loopw [7] (fun i wr => ∃ (q : Nat) (v : Value), q ≤ N1 ∧ i = .int .i64 (q : Int) ∧ GJ w A n c D kd (wst l q s2) v (.slice none 0 0) wr ∧ wr.ownsRow (D + 1) 2 1 v q (ints (wds l q s2)) ∧ wr.cell? ⟨ad.block, ad.off + 1, none⟩ = some (.int .i64 (N1 : Int))) (fun i _ => N1 - (intOf i).toNat)
  case atStart => exact ⟨0, _, Nat.zero_le _, rfl, HGI.out, World.ownsRow_nil _ _ _ _, HK1.out⟩
  case round =>
    obtain ⟨q, v, hq, rfl, hgj, hown, k1⟩ := hrel
    have HGJ := Lib.hid hgj
    have HOW := Lib.hid hown
    have HK := Lib.hid k1
    have HST := Lib.hid (show (wst l q s2).1 ≤ n by rw [← HNL.out]; exact wst_le q s2 (by rw [HNL.out]; exact HL2.out))
    clear hgj hown
    by_cases hlt : q < N1
    · have hqI : (q : Int) < (N1 : Int) := by omega
      have HWN := Lib.hid (wds_next l q s2)
      have HSN := Lib.hid (wst_next l q s2)
      obtain ⟨st, hst⟩ : ∃ x, wst l q s2 = x := ⟨_, rfl⟩
      rw [hst] at HGJ HWN HSN HST
      have HN8 := Lib.hid (HNM.out wr st HGJ.out.2 HST.out)
      obtain ⟨t, ht⟩ : ∃ x, pgS l st 8 = x := ⟨_, rfl⟩
      rw [ht] at HN8 HSN
      obtain ⟨x, hx⟩ : ∃ x, rvS l st 8 = x := ⟨_, rfl⟩
      rw [hx] at HN8 HWN
      obtain ⟨nb1, hnb1⟩ : ∃ b, (!st.2) = b := ⟨_, rfl⟩
      obtain ⟨nb2, hnb2⟩ : ∃ b, (!t.2) = b := ⟨_, rfl⟩
      rw [hnb1, hnb2] at HN8
      have HR := Lib.hid (show Blk wr w.heap.size 42 #[.slice A n c, .int .i64 (st.1 : Int), .bool nb1] from by rw [← hnb1]; exact HGJ.out.1.1)
      have HB2 := Lib.hid hnb2
      obtain ⟨x0, x1, x2⟩ := blk_ce3 HR.out
      clear hst ht hx hnb1 hnb2
      go_wp2_with fail
      clear x0 x1 x2 k1
      refine HN8.out.mono ?_
      rintro e w2 ⟨rfl, b2⟩
      have HJ2 := Lib.hid (HGJ.out.up HD.out b2)
      have HR2 := Lib.hid (HR.out.below b2 HR.out.lt)
      have HBB := Lib.hid b2
      obtain ⟨x0, x1, x2⟩ := blk_ce3 HR2.out
      obtain ⟨f0, f1, f2⟩ := blk_fr3 HR2.out
      have hlt2 : w.heap.size < w2.heap.size := HR2.out.lt
      clear b2
      obtain ⟨wg, hwg⟩ : ∃ wg, ((w2.setCell ⟨w.heap.size, 0, none⟩ (.slice A n c)).setCell ⟨w.heap.size, 1, none⟩ (.int .i64 (t.1 : Int))).setCell ⟨w.heap.size, 2, none⟩ (.bool nb2) = wg := ⟨_, rfl⟩
      obtain ⟨wf, hwf⟩ : ∃ wf, wg.alloc (.cells #[.slice A n c, .int .i64 (t.1 : Int), .bool nb2] 42) = wf := ⟨_, rfl⟩
      have HJF := Lib.hid (show GJ w A n c D kd t v (.slice none 0 0) wf from by rw [← hwf, ← hwg]; exact (HJ2.out.rd HD.out t nb2 HB2.out).up HD.out (alloc_ _ _))
      have hkeep : ∀ gg, gg ≠ w.heap.size → gg < w2.heap.size → wf.heap[gg]? = w2.heap[gg]? := fun gg hne hlt => by
        rw [← hwf]
        refine (Below.heap_alloc _ _ _ (by rw [← hwg]; simpa [World.setCell] using hlt)).trans ?_
        rw [← hwg]; exact heap_put3 w2 w.heap.size gg hne _ _ _
      have HOF := Lib.hid (show wf.ownsRow (D + 1) 2 1 v q (ints (wds l q s2)) from ownk_keep HOW.out fun gg hb hlt => (hkeep gg (by have := HD.out; omega) (by have := HBB.out.size; omega)).trans (HBB.out.block gg hlt))
      have HKF := Lib.hid (show wf.cell? ⟨ad.block, ad.off + 1, none⟩ = some (.int .i64 (N1 : Int)) from by
        have hb8 : ad.block < wr.heap.size := by have := HDA.out; have := HGJ.out.1.2.2.2.lt; omega
        have h8 : w2.cell? ⟨ad.block, ad.off + 1, none⟩ = some (.int .i64 (N1 : Int)) := (HBB.out.cell (p := ⟨ad.block, ad.off + 1, none⟩) hb8).trans HK.out
        exact (World.cell?_of_block (a := ⟨ad.block, ad.off + 1, none⟩) (hkeep ad.block (by have := HAD.out; omega) (by have := HBB.out.size; omega))).trans h8)
      have cD : wf.cell? ⟨D, 1, none⟩ = some v := HJF.out.1.2.2.2.cell 1
      have hDl : D < wf.heap.size := HJF.out.1.2.2.2.lt
      clear hkeep
      go_wp2_with (at_builtin; go_loud (refine wpList_append_own _ rfl _ _ 135 rfl (D + 1) 2 i0 (.int .i64 0) 1 8 Tryz.underlying135 hi hz0 hz1 hz2 rfl (by decide) _ _ _ rfl (ownk_keep HOF.out fun gg hb hlt => Below.heap_alloc _ _ _ hlt) ⟨wf.heap.size, 0, none⟩ 1 1 [.int .i64 x] rfl rfl (fun j u hu => by rw [add_plain, Nat.zero_add]; exact ((Blk.new wf 2 #[.int .i64 x]).cell j).trans (by simpa using hu)) (by simp [Value.oneCell']) (by unfold maxLen; omega) (by omega) (by simp; omega) ?_; intro v' w6 h2 h3 h4; clear h4; obtain ⟨A', c', rfl⟩ := own_formW h2; have H2 := Lib.hid h2; have H3 := Lib.hid h3; have hb6 : Below (D + 1) wf w6 := ((alloc_ wf _).mono (by omega)).grown h3 (by simp; omega) (fun r e => (HOF.out.lt r e).1); have HB6 := Lib.hid hb6; have HJ6 := Lib.hid (HJF.out.below HD.out hb6); have cD6 : w6.cell? ⟨D, 1, none⟩ = some v := HJ6.out.1.2.2.2.cell 1; have fD6 : w6.frozen? ⟨D, 1, none⟩ = false := HJ6.out.1.2.2.2.frozen 1; clear h2 h3 hb6))
      go_roundw
      case rel =>
        refine ⟨q + 1, _, by omega, by go_num, by rw [HSN.out]; exact HJ6.out.set1 HD.out _, ?_, ?_⟩
        · rw [HWN.out, ← ints_app1]
          exact ownk_keep H2.out fun gg hb hlt => Below.heap_setCell _ ⟨D, 1, none⟩ _ gg (by show gg ≠ D; omega)
        · rw [World.cell?_setCell_other _ _ _ _ (by have := HDA.out; first | (simp; done) | (simp; omega))]
          exact (HB6.out.cell (by show ad.block < D + 1; have := HDA.out; omega)).trans HKF.out
      case measure => simp [intOf]; omega
    · obtain rfl : q = N1 := by omega
      obtain ⟨AW, cW, rfl⟩ := own_formW HOW.out
      have HQ := Lib.hid (HGR.out wr HGJ.out.2 _ HST.out)
      rw [HO.out] at HQ
      have HWL := Lib.hid (wds_len l q s2)
      obtain ⟨st, hst⟩ : ∃ x, wst l q s2 = x := ⟨_, rfl⟩
      rw [hst] at HGJ HQ
      obtain ⟨nb1, hnb1⟩ : ∃ b, (!st.2) = b := ⟨_, rfl⟩
      unfold RrAns rdC at HQ
      rw [hnb1] at HQ
      have HR := Lib.hid (show Blk wr w.heap.size 42 #[.slice A n c, .int .i64 (st.1 : Int), .bool nb1] from by rw [← hnb1]; exact HGJ.out.1.1)
      obtain ⟨x0, x1, x2⟩ := blk_ce3 HR.out
      clear hst hnb1 HK
      go_wp2_with fail
      clear x0 x1 x2 k1
      refine HQ.out.mono ?_
      rintro e w2 ⟨t, A5, c5, rfl, h5, ht5, ha5, b5⟩
      have HA5 := Lib.hid (show ∀ ad, A5 = some ad → D < ad.block from fun ad e => by have := ha5 ad e; have := HGJ.out.1.2.2.2.lt; omega)
      clear ha5
      obtain ⟨nb2, hnb2⟩ : ∃ b, (!t.2) = b := ⟨_, rfl⟩
      rw [hnb2]
      have HB2 := Lib.hid hnb2
      have HRC := Lib.hid (show rdC A n c t = #[.slice A n c, .int .i64 (t.1 : Int), .bool nb2] from by rw [rdC_eq, hnb2])
      have HJ2 := Lib.hid (HGJ.out.up HD.out b5)
      have HR2 := Lib.hid (HR.out.below b5 HR.out.lt)
      have HO2 := Lib.hid (ownk_keep HOW.out fun gg hb hlt => b5.block gg hlt)
      have H5 := Lib.hid h5
      have HT5 := Lib.hid ht5
      obtain ⟨L, hL⟩ : ∃ L, (rrL o).length = L := ⟨_, rfl⟩
      obtain ⟨er, her⟩ : ∃ x, rrE o = x := ⟨_, rfl⟩
      have HL := Lib.hid hL
      have HER := Lib.hid her
      rw [hL, her]
      obtain ⟨f0, f1, f2⟩ := blk_fr3 HR2.out
      obtain ⟨x0, x1, x2⟩ := blk_ce3 HR2.out
      clear b5 h5 ht5 hnb2 hL her
      obtain ⟨wg, hwg⟩ : ∃ wg, ((w2.setCell ⟨w.heap.size, 0, none⟩ (.slice A n c)).setCell ⟨w.heap.size, 1, none⟩ (.int .i64 (t.1 : Int))).setCell ⟨w.heap.size, 2, none⟩ (.bool nb2) = wg := ⟨_, rfl⟩
      have HJG := Lib.hid (show GJ w A n c D kd t (.slice AW q cW) (.slice none 0 0) wg from by rw [← hwg]; exact HJ2.out.rd HD.out t nb2 HB2.out)
      have HKG := Lib.hid (show ∀ gg, gg ≠ w.heap.size → wg.heap[gg]? = w2.heap[gg]? from fun gg hne => by rw [← hwg]; exact heap_put3 w2 w.heap.size gg hne _ _ _)
      have HRG := Lib.hid (show Blk wg w.heap.size 42 #[.slice A n c, .int .i64 (t.1 : Int), .bool nb2] from by rw [← HRC.out]; exact HJG.out.1.1)
      have HOG := Lib.hid (ownk_keep HO2.out fun gg hb hlt => HKG.out gg (by have := HD.out; omega))
      have HSG := Lib.hid (show wg.heap.size = w2.heap.size from by rw [← hwg]; simp [World.setCell])
      obtain ⟨y0, y1, y2⟩ := blk_ce3 HRG.out
      obtain ⟨r0, r1, r2⟩ := blk_ce3 HJG.out.1.2.1
      obtain ⟨q0, q1, q2⟩ := blk_fr3 HJG.out.1.2.1
      obtain ⟨u0, u1, u2⟩ := blk_ce3 HJG.out.1.2.2.1
      obtain ⟨p0, p1, p2⟩ := blk_fr3 HJG.out.1.2.2.1
      by_cases he : er = 0
      · subst he
        have HF := Lib.hid (HGD.out.1 HER.out)
        obtain ⟨d0, d1, d2⟩ := blk_ce3 HJG.out.1.2.2.2
        obtain ⟨g0, g1, g2⟩ := blk_fr3 HJG.out.1.2.2.2
        have hne : ¬ w.heap.size = D := by have := HD.out; omega
        obtain ⟨wz, hwz⟩ : ∃ wz, wg.setCell ⟨D, 2, none⟩ (.slice A5 L c5) = wz := ⟨_, rfl⟩
        have HJZ := Lib.hid (show GJ w A n c D kd t (.slice AW q cW) (.slice A5 L c5) wz from by rw [← hwz]; exact HJG.out.set2 HD.out _)
        have HKZ := Lib.hid (show ∀ gg, gg ≠ D → wz.heap[gg]? = wg.heap[gg]? from fun gg hne => by rw [← hwz]; exact Below.heap_setCell _ ⟨D, 2, none⟩ _ gg hne)
        have HSZ := Lib.hid (show wz.heap.size = wg.heap.size from by rw [← hwz]; simp [World.setCell])
        go_wp2_with fail
        clear hwg hwz x0 x1 x2 f0 f1 f2 y0 y1 y2 r0 r1 r2 q0 q1 q2 u0 u1 u2 p0 p1 p2 d0 d1 d2 g0 g1 g2
        have HRZ := Lib.hid (show Blk wz w.heap.size 42 #[.slice A n c, .int .i64 (t.1 : Int), .bool nb2] from by rw [← HRC.out]; exact HJZ.out.1.1)
        obtain ⟨y0, y1, y2⟩ := blk_ce3 HRZ.out
        obtain ⟨r0, r1, r2⟩ := blk_ce3 HJZ.out.1.2.1
        obtain ⟨q0, q1, q2⟩ := blk_fr3 HJZ.out.1.2.1
        obtain ⟨u0, u1, u2⟩ := blk_ce3 HJZ.out.1.2.2.1
        obtain ⟨p0, p1, p2⟩ := blk_fr3 HJZ.out.1.2.2.1
        obtain ⟨d0, d1, d2⟩ := blk_ce3 HJZ.out.1.2.2.2
        have hDs : w.heap.size + 2 < D := HD.out
        go_region
        have HPZ := Lib.hid (HJZ.out.put (.slice A n c) (.int .i64 (t.1 : Int)) (.bool nb2) (.int .i64 kd) (.slice AW q cW) (.slice A5 L c5))
        go_wp2_with fail
        obtain ⟨z0, z1, z2⟩ := blk_ce3 HPZ.out.1
        obtain ⟨m0, m1, m2⟩ := blk_ce3 HPZ.out.2.1
        refine bodyPost_ret (v := .tuple #[.agg #[.slice A n c, .int .i64 (t.1 : Int), .bool nb2], .agg #[.int .i64 kd, .slice AW q cW, .slice A5 L c5], .int .i64 0]) (by simp [results, Tryz.results204, go_sem, z0, z1, z2, m0, m1, m2]) rfl ?_
        rw [HF.out]
        have hP1 := HPZ.out.2.2.1
        have hP2 := HPZ.out.2.2.2
        obtain ⟨X, hX⟩ : ∃ X, (((((wz.setCell ⟨w.heap.size + 1, 0, none⟩ (.slice A n c)).setCell ⟨w.heap.size + 1, 1, none⟩ (.int .i64 (t.1 : Int))).setCell ⟨w.heap.size + 1, 2, none⟩ (.bool nb2)).setCell ⟨w.heap.size + 1 + 1, 0, none⟩ (.int .i64 kd)).setCell ⟨w.heap.size + 1 + 1, 1, none⟩ (.slice AW q cW)).setCell ⟨w.heap.size + 1 + 1, 2, none⟩ (.slice A5 L c5) = X := ⟨_, rfl⟩
        rw [hX] at hP1 hP2
        refine ⟨t, AW, cW, A5, c5, ?_, ?_, ?_, fun _ => HT5.out HER.out, ?_⟩
        · show Ending.returned (.tuple #[.agg #[.slice A n c, .int .i64 (t.1 : Int), .bool nb2], .agg #[.int .i64 kd, .slice AW q cW, .slice A5 L c5], .int .i64 0]) = .returned (.tuple #[.agg (rdC A n c t), .agg #[.int .i64 kd, .slice AW (wds l q s2).length cW, .slice A5 (rrL o).length c5], .int .i64 0])
          rw [HRC.out, HWL.out, HL.out]
        · show IW _ (.slice AW (wds l q s2).length cW) (wds l q s2)
          rw [HWL.out, hX]
          exact SlV.of_own (ownk_keep (w' := X.drew) HOG.out fun gg hb hlt => (show X.heap[gg]? = _ from (hP2 gg (by omega) (by omega)).trans (HKZ.out gg (by omega))))
        · show RlL _ A5 (rrL o).length c5 (rrL o)
          rw [hX]
          refine H5.out.keepA (w' := X.drew) (fun ad e => ?_) (show w2.heap.size ≤ X.heap.size by have h1 := HSZ.out; have h2 := HSG.out; have h3 : X.heap.size = wz.heap.size := by rw [← hX]; simp [World.setCell]
                                                                                                  omega)
          have h9 := HA5.out ad e
          exact (show X.heap[ad.block]? = _ from (hP2 ad.block (by omega) (by omega)).trans ((HKZ.out ad.block (by omega)).trans (HKG.out ad.block (by omega))))
        · rw [hX]
          exact hP1.trans ⟨rfl, rfl, rfl, Nat.le_refl _, fun _ _ => rfl⟩
      · have hne : (er != 0) = true := by simpa using he
        have HF := Lib.hid (HGD.out.2 (by rw [HER.out]; exact he))
        have HE0 := Lib.hid he
        have HPZ := Lib.hid (HJG.out.put (.slice A n c) (.int .i64 (t.1 : Int)) (.bool nb2) (.int .i64 0) (.slice none 0 0) (.slice none 0 0))
        clear he
        go_wp2_with fail
        obtain ⟨z0, z1, z2⟩ := blk_ce3 HPZ.out.1
        obtain ⟨m0, m1, m2⟩ := blk_ce3 HPZ.out.2.1
        refine bodyPost_ret (v := .tuple #[.agg #[.slice A n c, .int .i64 (t.1 : Int), .bool nb2], .agg #[.int .i64 0, .slice none 0 0, .slice none 0 0], .int .i64 er]) (by simp [results, Tryz.results204, go_sem, z0, z1, z2, m0, m1, m2]) rfl ?_
        rw [HF.out.1, HER.out]
        exact ⟨t, none, 0, none, 0, by rw [HRC.out]; rfl, .nil, Wd.nil, fun e => absurd e HE0.out, HPZ.out.2.2.1⟩
end Go.Proofs.YtbknmapkdjmcjaaGreatDoor.By

namespace Go.Proofs.YtbknmapkdjmcjaaGreatDoor.By
open Go.RowKit
open Mem Gm Rf
set_option linter.unusedSimpArgs false
set_option linter.unusedVariables false

theorem rdC_form (A : Option Addr) (n c : Nat) (t : Std) : ∃ (p : Nat) (b : Bool), rdC A n c t = #[.slice A n c, .int .i64 (p : Int), .bool b] ∧ b = !t.2 := ⟨t.1, !t.2, rfl, rfl⟩
/-- The reader's block, and those of what is answered. -/
def HJ0 (w : World) (rc : Array Value) (wr : World) : Prop :=
  (Blk wr w.heap.size 42 rc ∧ Blk wr (w.heap.size + 1) 42 #[.slice none 0 0, .int .i64 0, .bool false] ∧ Blk wr (w.heap.size + 2) 27 #[.int .i64 0, .slice none 0 0, .int .i64 0, .bool false, .int .i64 0, .int .i64 0, .slice none 0 0, .slice none 0 0, .slice none 0 0]) ∧ Below w.heap.size w wr
theorem HJ0.on {w : World} {rc : Array Value} {wr w' : World} {B : Nat} (h : HJ0 w rc wr) (hb : Below B wr w') (hB : w.heap.size + 3 ≤ B) : HJ0 w rc w' :=
  ⟨⟨h.1.1.below hb (by omega), h.1.2.1.below hb (by omega), h.1.2.2.below hb (by omega)⟩, h.2.trans (hb.mono (by omega))⟩
theorem HJ0.sz {w : World} {rc : Array Value} {wr : World} (h : HJ0 w rc wr) : w.heap.size + 3 ≤ wr.heap.size := h.1.2.2.lt
theorem HJ0.up {w : World} {rc : Array Value} {wr w' : World} (h : HJ0 w rc wr) (hb : Below wr.heap.size wr w') : HJ0 w rc w' := h.on hb h.sz
theorem HJ0.rd {w : World} {a b d : Value} {wr : World} (h : HJ0 w #[a, b, d] wr) (a' b' d' : Value) : HJ0 w #[a', b', d'] ((((wr).setCell ⟨w.heap.size, 0, none⟩ a').setCell ⟨w.heap.size, 1, none⟩ b').setCell ⟨w.heap.size, 2, none⟩ d') :=
  ⟨⟨blk_put3 h.1.1 _ _ _, blk_away3 h.1.2.1 _ (by omega) _ _ _, blk_away3 h.1.2.2 _ (by omega) _ _ _⟩, below_put3 h.2 _ (Nat.le_refl _) _ _ _⟩
theorem HJ0.far {w : World} {rc : Array Value} {wr : World} (h : HJ0 w rc wr) (p : Addr) (u : Value) (hp : w.heap.size + 2 < p.block) : HJ0 w rc (wr.setCell p u) :=
  ⟨⟨blk_away h.1.1 p u (by omega), blk_away h.1.2.1 p u (by omega), blk_away h.1.2.2 p u (by omega)⟩, h.2.setCell (by omega) u⟩
theorem HJ0.new {w : World} {rc : Array Value} {wr : World} (h : HJ0 w rc wr) (o : Obj) : HJ0 w rc (wr.alloc o) := h.up (alloc_ _ _)
/-- What is answered was put into its cells. -/
theorem HJ0.put {w : World} {rc : Array Value} {wr : World} (h : HJ0 w rc wr) (a b d a0 a1 a2 a3 a4 a5 a6 a7 a8 : Value) (W9 : World) (hW : set9 ((((wr).setCell ⟨w.heap.size + 1, 0, none⟩ a).setCell ⟨w.heap.size + 1, 1, none⟩ b).setCell ⟨w.heap.size + 1, 2, none⟩ d) (w.heap.size + 1 + 1) a0 a1 a2 a3 a4 a5 a6 a7 a8 = W9) :
    Blk W9 (w.heap.size + 1) 42 #[a, b, d] ∧ Blk W9 (w.heap.size + 1 + 1) 27 #[a0, a1, a2, a3, a4, a5, a6, a7, a8] ∧ Below w.heap.size w W9 ∧ ∀ gg, gg ≠ w.heap.size + 1 → gg ≠ w.heap.size + 1 + 1 → W9.heap[gg]? = wr.heap[gg]? := by
  have h1 : Blk ((((wr).setCell ⟨w.heap.size + 1, 0, none⟩ a).setCell ⟨w.heap.size + 1, 1, none⟩ b).setCell ⟨w.heap.size + 1, 2, none⟩ d) (w.heap.size + 1) 42 #[a, b, d] := blk_put3 h.1.2.1 _ _ _
  have h2 : Blk ((((wr).setCell ⟨w.heap.size + 1, 0, none⟩ a).setCell ⟨w.heap.size + 1, 1, none⟩ b).setCell ⟨w.heap.size + 1, 2, none⟩ d) (w.heap.size + 1 + 1) 27 #[.int .i64 0, .slice none 0 0, .int .i64 0, .bool false, .int .i64 0, .int .i64 0, .slice none 0 0, .slice none 0 0, .slice none 0 0] := blk_away3 h.1.2.2 _ (by omega) _ _ _
  have h3 : Below w.heap.size w ((((wr).setCell ⟨w.heap.size + 1, 0, none⟩ a).setCell ⟨w.heap.size + 1, 1, none⟩ b).setCell ⟨w.heap.size + 1, 2, none⟩ d) := below_put3 h.2 _ (by omega) _ _ _
  have hon := set9_only ((((wr).setCell ⟨w.heap.size + 1, 0, none⟩ a).setCell ⟨w.heap.size + 1, 1, none⟩ b).setCell ⟨w.heap.size + 1, 2, none⟩ d) (w.heap.size + 1 + 1) a0 a1 a2 a3 a4 a5 a6 a7 a8
  have hk : ∀ k, k ≠ w.heap.size + 1 + 1 → W9.heap[k]? = ((((wr).setCell ⟨w.heap.size + 1, 0, none⟩ a).setCell ⟨w.heap.size + 1, 1, none⟩ b).setCell ⟨w.heap.size + 1, 2, none⟩ d).heap[k]? := fun k hk => by rw [← hW]; exact set9_heap _ _ k hk ..
  rw [hW] at hon
  refine ⟨(hk _ (by omega)).trans h1, by rw [← hW]; exact blk_set9 a0 a1 a2 a3 a4 a5 a6 a7 a8 h2, ?_, fun gg g1 g2 => (hk gg g2).trans (heap_put3 wr (w.heap.size + 1) gg g1 a b d)⟩
  exact ⟨hon.os.trans h3.os, hon.tape.trans h3.tape, hon.output.trans h3.output, Nat.le_trans h3.size hon.size, fun k hk9 => (hon.block k (Nat.lt_of_lt_of_le hk9 h3.size) (fun e => by injection e; omega)).trans (h3.block k hk9)⟩

/-- A slice in a block that stays. -/
theorem SlV.keepA {w w' : World} {A : Option Addr} {n c : Nat} {vs : List Value} (h : SlV w w.heap.size (.slice A n c) vs) (hk : ∀ ad, A = some ad → w'.heap[ad.block]? = w.heap[ad.block]?) (hs : w.heap.size ≤ w'.heap.size) : SlV w' w'.heap.size (.slice A n c) vs := by
  cases h with
  | nil => exact .nil
  | at_ ad cap _ hc hm h =>
    exact .at_ ad c vs hc hm fun j u hu => by
      obtain ⟨h1, h2⟩ := h j u hu
      refine ⟨by omega, (World.cell?_of_block (a := ad.add j) (by rw [add_block]; exact hk ad rfl)).trans h2⟩
theorem Wd.keepA {α : Type} {k : Nat} {enc : α → List Value} {w w' : World} {A : Option Addr} {n c : Nat} {l : List α} (h : Wd k enc w w.heap.size A n c l) (hk : ∀ ad, A = some ad → w'.heap[ad.block]? = w.heap[ad.block]?) (hs : w.heap.size ≤ w'.heap.size) : Wd k enc w' w'.heap.size A n c l :=
  ⟨h.1, h.2.1, h.2.2.1, h.2.2.2.1, fun i x hi => by
    obtain ⟨ad, e, hb, hc⟩ := h.2.2.2.2 i x hi
    refine ⟨ad, e, by omega, fun j u hu => ?_⟩
    exact (World.cell?_of_block (a := ((ad.add (i * k)).add j)) (by rw [add_block, add_block]; exact hk ad e)).trans (hc j u hu)⟩
theorem el_take (l : List Int) (k : Nat) (hk : k < l.length) : ints (l.take (k + 1)) = ints (l.take k) ++ [.int .i64 (el l k)] := by
  rw [List.take_add_one, List.getElem?_eq_getElem hk, ints_app1]
  refine congrArg (fun z => ints (l.take k ++ z)) ?_
  unfold el
  rw [List.getD_eq_getElem?_getD, List.getElem?_eq_getElem hk]
  rfl
def ln2 (v : Int) : Ln := (v / 65536, v % 65536)
theorem ln_take (l : List Int) (k : Nat) (hk : k < l.length) : flLn ((l.map ln2).take (k + 1)) = flLn ((l.map ln2).take k) ++ [.int .i64 (el l k / 65536), .int .i64 (el l k % 65536)] := by
  rw [List.take_add_one, List.getElem?_map, List.getElem?_eq_getElem hk]
  unfold flLn
  rw [List.flatMap_append]
  refine congrArg (_ ++ ·) ?_
  unfold el
  rw [List.getD_eq_getElem?_getD, List.getElem?_eq_getElem hk]
  rfl
theorem three_in (l : List UInt8) (s : Std) : 0 ≤ rvS l s 3 ∧ rvS l s 3 < 16777216 := by
  obtain ⟨p, g⟩ := s
  cases g with
  | false => rw [(pg_bad (l := l) (s := (p, false)) rfl 3).2]; omega
  | true =>
    by_cases h : p + 3 ≤ l.length
    · have e : rvS l (p, true) 3 = (natV ((l.drop p).take 3) : Int) := val_of l p 3 (by omega) (by omega) h
      have hb := natV_lt ((l.drop p).take 3)
      have hl3 : ((l.drop p).take 3).length = 3 := by simp; omega
      rw [hl3, show (256 : Nat) ^ 3 = 16777216 from by decide] at hb
      omega
    · rw [show rvS l (p, true) 3 = 0 from rd_bad (k := 3) (pg_no l p 3 (by omega) (by omega) h)]; omega
theorem vs_in (l : List UInt8) (s : Std) (N k : Nat) : 0 ≤ el (vlQ (fun _ => 3) l s N) k ∧ el (vlQ (fun _ => 3) l s N) k < 16777216 := by
  unfold el
  rw [List.getD_eq_getElem?_getD]
  unfold vlQ
  rw [List.getElem?_map]
  cases hr : (List.range N)[k]? with
  | none => show (0 : Int) ≤ 0 ∧ (0 : Int) < 16777216; omega
  | some i => exact three_in l _
/-- What the document's head answers. -/
def HdAns (l : List UInt8) (s : Std) (w : World) (A : Option Addr) (n c : Nat) (e : Ending) (w' : World) : Prop :=
  ∃ AK cK AL cL, e = .returned (.tuple #[.agg (rdC A n c (hdS l s)), .agg #[.int .i64 (hdF l s).k, .slice AK (hdF l s).ks.length cK, .int .i64 (hdF l s).pd, .bool (hdF l s).ns, .int .i64 (hdF l s).f, .int .i64 (hdF l s).t, .slice AL (hdF l s).ls.length cL, .slice none 0 0, .slice none 0 0], .int .i64 (hdE l s)]) ∧
    IW w' (.slice AK (hdF l s).ks.length cK) (hdF l s).ks ∧ LnL w' AL (hdF l s).ls.length cL (hdF l s).ls ∧ (∀ ad, AK = some ad → w.heap.size ≤ ad.block) ∧ (∀ ad, AL = some ad → w.heap.size ≤ ad.block) ∧ Below w.heap.size w w'
end Go.Proofs.YtbknmapkdjmcjaaGreatDoor.By

namespace Go.Proofs.YtbknmapkdjmcjaaGreatDoor.By
open Go.RowKit
open Mem Gm Rf
set_option linter.unusedSimpArgs false
set_option linter.unusedVariables false

set_option maxRecDepth 100000 in
set_option maxHeartbeats 8000000 in
theorem headQ_any (w : World) (A : Option Addr) (n c : Nat) (l : List UInt8) (s : Std) (hn : l.length = n) (hl : n ≤ 1000000) (hs : s.1 ≤ n) (hv : SlV w w.heap.size (.slice A n c) (u8s l)) :
    Calls Tryz.prog 85 #[.agg (rdC A n c s)] w (HdAns l s w A n c) := by
  obtain ⟨iI, hiI, hzI0, hzI1, hzI2⟩ := info_parts infoI
  obtain ⟨iL, hiL, hzL0, hzL1, hzL2⟩ := info_parts infoLn
  have hs1 : (dS1 l s).1 ≤ n := by rw [← hn]; exact pgS_le (by omega) 1
  have hs1' : (pgS l (dS1 l s) 1).1 ≤ l.length := pgS_le (by omega) 1
  have hs2 : (dS2 l s).1 ≤ n := by rw [← hn]; exact stQ_le hs1' _
  have hs3 : (dS3 l s).1 ≤ n := by rw [← hn]; exact stQ_le (by omega) _
  have HQ1 := Lib.hid (show ∀ W, Below w.heap.size w W → Calls Tryz.prog 86 #[.agg #[.slice A n c, .int .i64 (s.1 : Int), .bool (!s.2)], .int .i64 1, .bool false] W fun e w' => e = .returned (.tuple #[.agg (rdC A n c (dS1 l s)), .int .i64 (rvS l s 1)]) ∧ Below W.heap.size W w' from fun W hb => by
    have := rnum_any W w.heap.size A c l s.1 s.2 false 1 (by omega) (by omega) (by rw [hn]; exact hv.below hb)
    rw [hn] at this; exact this)
  have HQ2 := Lib.hid (show ∀ W, Below w.heap.size w W → Calls Tryz.prog 162 #[.agg (rdC A n c (dS1 l s)), .int .i64 1] W fun e w' => ∃ A2 c2, e = .returned (.tuple #[.agg (rdC A n c (dS2 l s)), .slice A2 (dN1 l s) c2]) ∧ SlV w' w'.heap.size (.slice A2 (dN1 l s) c2) (ints (dKs l s)) ∧ Below W.heap.size W w' ∧ ∀ ad, A2 = some ad → W.heap.size ≤ ad.block from fun W hb => someQ_any 1 W A n c l (dS1 l s) hn hl hs1 ((hv.below hb).more hb.size))
  have HQ3 := Lib.hid (show ∀ W, Below w.heap.size w W → Calls Tryz.prog 163 #[.agg (rdC A n c (dS2 l s)), .slice (some ⟨W.heap.size, 0, none⟩) 4 4] (W.alloc (.cells #[.int .i64 2, .int .i64 1, .int .i64 1, .int .i64 1] 3)) fun e w' => ∃ A2 c2, e = .returned (.tuple #[.agg (rdC A n c (dS3 l s)), .slice A2 4 c2]) ∧ SlV w' w'.heap.size (.slice A2 4 c2) (ints [dkv l s 0, dkv l s 1, dkv l s 2, dkv l s 3]) ∧ Below (W.heap.size + 1) (W.alloc (.cells #[.int .i64 2, .int .i64 1, .int .i64 1, .int .i64 1] 3)) w' ∧ ∀ ad, A2 = some ad → W.heap.size + 1 ≤ ad.block from fun W hb => by
    have h9 := numsQ_any dW4 4 (by decide) (W.alloc (.cells #[.int .i64 2, .int .i64 1, .int .i64 1, .int .i64 1] 3)) A n c W.heap.size l (dS2 l s) hn hl hs2 ((hv.below (to_ hb (alloc_ _ _))).more (to_ hb (alloc_ _ _)).size) (by simp) (fun k hk => by
      rw [(Blk.new W _ _).cell]
      match k, hk with
      | 0, _ => rfl
      | 1, _ => rfl
      | 2, _ => rfl
      | 3, _ => rfl)
    unfold NqAns at h9
    rw [World.size_alloc] at h9
    exact h9)
  have HQ4 := Lib.hid (show ∀ W, Below w.heap.size w W → Calls Tryz.prog 162 #[.agg (rdC A n c (dS3 l s)), .int .i64 3] W fun e w' => ∃ A2 c2, e = .returned (.tuple #[.agg (rdC A n c (dS4 l s)), .slice A2 (dN2 l s) c2]) ∧ SlV w' w'.heap.size (.slice A2 (dN2 l s) c2) (ints (dVs l s)) ∧ Below W.heap.size W w' ∧ ∀ ad, A2 = some ad → W.heap.size ≤ ad.block from fun W hb => someQ_any 3 W A n c l (dS3 l s) hn hl hs3 ((hv.below hb).more hb.size))
  have hk1 := num_one l (dS1 l s)
  have hk2 := num_one l (dS3 l s)
  have hN1 : dN1 l s ≤ 255 := by unfold dN1; omega
  have hN2 : dN2 l s ≤ 255 := by unfold dN2; omega
  have hKl : (dKs l s).length = dN1 l s := vlQ_len _ _ _ _
  have hVl : (dVs l s).length = dN2 l s := vlQ_len _ _ _ _
  have HVI := Lib.hid (fun k => vs_in l (pgS l (dS3 l s) 1) (dN2 l s) k)
  have hVs : vlQ (fun _ => 3) l (pgS l (dS3 l s) 1) (dN2 l s) = dVs l s := rfl
  rw [hVs] at HVI
  have HF1 := Lib.hid (show 1 < dkv l s 1 → hdS l s = dS3 l s ∧ hdE l s = 3 ∧ hdF l s = fn0 from fun h => by
    have he : hdE l s = 3 := by unfold hdE; rw [if_pos h]
    exact ⟨by unfold hdS; rw [if_pos h], he, by unfold hdF; rw [he]; rfl⟩)
  have HF2 := Lib.hid (show ¬ 1 < dkv l s 1 → hdS l s = dS4 l s from fun h => by unfold hdS; rw [if_neg h])
  have HF3 := Lib.hid (show ¬ 1 < dkv l s 1 → (dS4 l s).2 = false → hdE l s = 5 ∧ hdF l s = fn0 from fun h h2 => by
    have he : hdE l s = 5 := by unfold hdE; rw [if_neg h, if_pos h2]
    exact ⟨he, by unfold hdF; rw [he]; rfl⟩)
  have HF4 := Lib.hid (show ¬ 1 < dkv l s 1 → (dS4 l s).2 = true → hdE l s = 0 ∧ hdF l s = ⟨rvS l s 1, dKs l s, dkv l s 0, decide (dkv l s 1 = 1), dkv l s 2, dkv l s 3, (dVs l s).map ln2, [], []⟩ from fun h h2 => by
    have he : hdE l s = 0 := by unfold hdE; rw [if_neg h, if_neg (by rw [h2]; decide)]
    exact ⟨he, by unfold hdF; rw [he]; rfl⟩)
  obtain ⟨p1, b1, hr1, -⟩ := rdC_form A n c (dS1 l s)
  obtain ⟨p2, b2, hr2, -⟩ := rdC_form A n c (dS2 l s)
  obtain ⟨p3, b3, hr3, -⟩ := rdC_form A n c (dS3 l s)
  obtain ⟨p4, b4, hr4, hb4⟩ := rdC_form A n c (dS4 l s)
  have HR3 := Lib.hid hr3
  have HR4 := Lib.hid hr4
  have HB4 := Lib.hid hb4
  rw [hr1] at HQ1 HQ2
  rw [hr2] at HQ2 HQ3
  rw [hr3] at HQ3 HQ4
  rw [hr4] at HQ4
  have HRS := Lib.hid (show rdC A n c s = #[.slice A n c, .int .i64 (s.1 : Int), .bool (!s.2)] from rfl)
  unfold HdAns
  rw [show rdC A n c s = #[.slice A n c, .int .i64 (s.1 : Int), .bool (!s.2)] from rfl]
  generalize hdS l s = hS at HF1 HF2 ⊢
  generalize hdE l s = hE at HF1 HF3 HF4 ⊢
  generalize hdF l s = hF at HF1 HF3 HF4 ⊢
  generalize dS1 l s = t1 at HQ1 HQ2 hr1 hk1 hs1 hs1'
  generalize dS4 l s = t4 at HF2 HF3 HF4 hr4 HR4 hb4 HB4 HQ4
  generalize dS3 l s = t3 at HF1 hr3 HR3 hk2 hs3 HQ3 HQ4
  generalize dS2 l s = t2 at hr2 hs2 HQ2 HQ3
  generalize dN1 l s = N1 at HQ2 hN1 hKl
  generalize dN2 l s = N2 at HQ4 hN2 hVl
  generalize dKs l s = ks at HQ2 HF4 hKl
  generalize dVs l s = vs at HQ4 HF4 hVl HVI
  generalize rvS l s 1 = cl at HQ1 HF4
  generalize dkv l s 0 = k0 at HQ3 HF4
  generalize dkv l s 1 = k1 at HQ3 HF1 HF2 HF3 HF4
  generalize dkv l s 2 = k2 at HQ3 HF4
  generalize dkv l s 3 = k3 at HQ3 HF4
  have HKL := Lib.hid hKl
  have HVL := Lib.hid hVl
  have HN1 := Lib.hid hN1
  have HN2 := Lib.hid hN2
  obtain ⟨W0, hW0⟩ : ∃ W0, ((w.alloc (.cells #[.slice A n c, .int .i64 (s.1 : Int), .bool (!s.2)] 42)).alloc (.cells #[.slice none 0 0, .int .i64 0, .bool false] 42)).alloc (.cells #[.int .i64 0, .slice none 0 0, .int .i64 0, .bool false, .int .i64 0, .int .i64 0, .slice none 0 0, .slice none 0 0, .slice none 0 0] 27) = W0 := ⟨_, rfl⟩
  have HS0 := Lib.hid (show HJ0 w #[.slice A n c, .int .i64 (s.1 : Int), .bool (!s.2)] W0 from by
    rw [← hW0]
    refine ⟨⟨((Blk.new w _ _).alloc _).alloc _, ?_, ?_⟩, to_ (to_ (alloc_ _ _) (alloc_ _ _)) (alloc_ _ _)⟩
    · have := Blk.new (w.alloc (.cells #[.slice A n c, .int .i64 (s.1 : Int), .bool (!s.2)] 42)) 42 #[.slice none 0 0, .int .i64 0, .bool false]
      rw [World.size_alloc] at this
      exact this.alloc _
    · have := Blk.new ((w.alloc (.cells #[.slice A n c, .int .i64 (s.1 : Int), .bool (!s.2)] 42)).alloc (.cells #[.slice none 0 0, .int .i64 0, .bool false] 42)) 27 #[.int .i64 0, .slice none 0 0, .int .i64 0, .bool false, .int .i64 0, .int .i64 0, .slice none 0 0, .slice none 0 0, .slice none 0 0]
      rwa [World.size_alloc, World.size_alloc] at this)
  clear hv hs hn hl hs1 hs1' hs2 hs3 hk1 hk2 hN1 hN2 hKl hVl hr1 hr2 hr3 hr4 hb4 hVs HRS
  obtain ⟨x0, x1, x2⟩ := blk_ce3 HS0.out.1.1
  go_enter Tryz.func85, Tryz.ntmps85
  go_wp2_with fail
  clear hW0 x0 x1 x2
  refine (HQ1.out W0 HS0.out.2).mono ?_
  rintro e w1 ⟨rfl, q1⟩
  have HJ1 := Lib.hid (HS0.out.up q1)
  obtain ⟨x0, x1, x2⟩ := blk_ce3 HJ1.out.1.1
  obtain ⟨f0, f1, f2⟩ := blk_fr3 HJ1.out.1.1
  obtain ⟨wg1, hwg1⟩ : ∃ wg, (((w1).setCell ⟨w.heap.size, 0, none⟩ (.slice A n c)).setCell ⟨w.heap.size, 1, none⟩ (.int .i64 (p1 : Int))).setCell ⟨w.heap.size, 2, none⟩ (.bool b1) = wg := ⟨_, rfl⟩
  have HG1 := Lib.hid (show HJ0 w #[.slice A n c, .int .i64 (p1 : Int), .bool b1] wg1 from by rw [← hwg1]; exact HJ1.out.rd _ _ _)
  have HK1 := Lib.hid (show ∀ gg, gg ≠ w.heap.size → wg1.heap[gg]? = w1.heap[gg]? from fun gg hne => by rw [← hwg1]; exact heap_put3 w1 w.heap.size gg hne _ _ _)
  have HZ1 := Lib.hid (show wg1.heap.size = w1.heap.size from by rw [← hwg1]; simp [World.setCell])
  obtain ⟨y0, y1, y2⟩ := blk_ce3 HG1.out.1.1
  clear q1
  go_wp2_with fail
  clear hwg1 x0 x1 x2 f0 f1 f2 y0 y1 y2
  refine (HQ2.out wg1 HG1.out.2).mono ?_
  rintro e w2 ⟨A2, c2, rfl, h2, q2, ha2⟩
  have HJ2 := Lib.hid (HG1.out.up q2)
  obtain ⟨x0, x1, x2⟩ := blk_ce3 HJ2.out.1.1
  obtain ⟨f0, f1, f2⟩ := blk_fr3 HJ2.out.1.1
  obtain ⟨wg2, hwg2⟩ : ∃ wg, (((w2).setCell ⟨w.heap.size, 0, none⟩ (.slice A n c)).setCell ⟨w.heap.size, 1, none⟩ (.int .i64 (p2 : Int))).setCell ⟨w.heap.size, 2, none⟩ (.bool b2) = wg := ⟨_, rfl⟩
  have HG2 := Lib.hid (show HJ0 w #[.slice A n c, .int .i64 (p2 : Int), .bool b2] wg2 from by rw [← hwg2]; exact HJ2.out.rd _ _ _)
  have HK2 := Lib.hid (show ∀ gg, gg ≠ w.heap.size → wg2.heap[gg]? = w2.heap[gg]? from fun gg hne => by rw [← hwg2]; exact heap_put3 w2 w.heap.size gg hne _ _ _)
  have HZ2 := Lib.hid (show wg2.heap.size = w2.heap.size from by rw [← hwg2]; simp [World.setCell])
  obtain ⟨y0, y1, y2⟩ := blk_ce3 HG2.out.1.1
  have HA2 := Lib.hid (show ∀ ad, A2 = some ad → w.heap.size + 2 < ad.block from fun ad e => by have := ha2 ad e; have := HG1.out.sz; omega)
  have HI2 := Lib.hid h2
  clear q2 h2 ha2
  go_wp2_with fail
  clear hwg2 x0 x1 x2 f0 f1 f2 y0 y1 y2
  refine (HQ3.out wg2 HG2.out.2).mono ?_
  rintro e w3 ⟨A3, c3, rfl, h3, q3, ha3⟩
  have q3' : Below wg2.heap.size wg2 w3 := (alloc_ _ _).trans (q3.mono (by omega))
  have HJ3 := Lib.hid (HG2.out.up q3')
  obtain ⟨x0, x1, x2⟩ := blk_ce3 HJ3.out.1.1
  obtain ⟨f0, f1, f2⟩ := blk_fr3 HJ3.out.1.1
  obtain ⟨wg3, hwg3⟩ : ∃ wg, (((w3).setCell ⟨w.heap.size, 0, none⟩ (.slice A n c)).setCell ⟨w.heap.size, 1, none⟩ (.int .i64 (p3 : Int))).setCell ⟨w.heap.size, 2, none⟩ (.bool b3) = wg := ⟨_, rfl⟩
  have HG3 := Lib.hid (show HJ0 w #[.slice A n c, .int .i64 (p3 : Int), .bool b3] wg3 from by rw [← hwg3]; exact HJ3.out.rd _ _ _)
  have HK3 := Lib.hid (show ∀ gg, gg ≠ w.heap.size → wg3.heap[gg]? = w3.heap[gg]? from fun gg hne => by rw [← hwg3]; exact heap_put3 w3 w.heap.size gg hne _ _ _)
  have HZ3 := Lib.hid (show wg3.heap.size = w3.heap.size from by rw [← hwg3]; simp [World.setCell])
  obtain ⟨y0, y1, y2⟩ := blk_ce3 HG3.out.1.1
  obtain ⟨ad, hA3, hc⟩ : ∃ ad, A3 = some ad ∧ ∀ j, j < 4 → w3.cell? (ad.add j) = some (.int .i64 (el [k0, k1, k2, k3] j)) := by
    rcases ints_row (A := A3) (c := c3) (l := [k0, k1, k2, k3]) h3 with ⟨e, _⟩ | ⟨ad, e, _, hc⟩
    · cases e
    · exact ⟨ad, e, hc⟩
  have HAD := Lib.hid (show w.heap.size + 2 < ad.block ∧ ad.block < w3.heap.size from ⟨by have := ha3 ad hA3; have := HG2.out.sz; omega, World.block_lt_of_cell? w3 _ (hc 0 (by decide))⟩)
  subst hA3
  have HC := Lib.hid (show ∀ W : World, (∀ gg, w.heap.size + 2 < gg → gg < w3.heap.size → W.heap[gg]? = w3.heap[gg]?) → W.cell? ad = some (.int .i64 k0) ∧ W.cell? ⟨ad.block, ad.off + 1, none⟩ = some (.int .i64 k1) ∧ W.cell? ⟨ad.block, ad.off + 2, none⟩ = some (.int .i64 k2) ∧ W.cell? ⟨ad.block, ad.off + 3, none⟩ = some (.int .i64 k3) from fun W hk => by
    have hb := hk ad.block (by have := HAD.out; omega) HAD.out.2
    have k0' := hc 0 (by decide); rw [show ad.add 0 = ad from by unfold Addr.add; simp] at k0'
    have k1' := hc 1 (by decide); rw [add_field _ 1 (by decide)] at k1'
    have k2' := hc 2 (by decide); rw [add_field _ 2 (by decide)] at k2'
    have k3' := hc 3 (by decide); rw [add_field _ 3 (by decide)] at k3'
    exact ⟨(World.cell?_of_block (a := ad) hb).trans k0', (World.cell?_of_block (a := ⟨ad.block, ad.off + 1, none⟩) hb).trans k1', (World.cell?_of_block (a := ⟨ad.block, ad.off + 2, none⟩) hb).trans k2', (World.cell?_of_block (a := ⟨ad.block, ad.off + 3, none⟩) hb).trans k3'⟩)
  -- what the kinds' slice holds, as of w3
  have HE2 := Lib.hid (show ∀ j, j < N1 → ∃ a2, A2 = some a2 ∧ w.heap.size + 2 < a2.block ∧ a2.block < w3.heap.size ∧ w3.cell? (a2.add j) = some (.int .i64 (el ks j)) from fun j hj => by
    rcases ints_row (A := A2) (c := c2) (l := ks) (by rw [HKL.out]; exact HI2.out) with ⟨h0, _⟩ | ⟨a2, e, _, hc2⟩
    · have h9 := HKL.out; rw [h0] at h9; simp at h9; omega
    · have hcj := hc2 j (by rw [HKL.out]; exact hj)
      have hlt := World.block_lt_of_cell? _ _ hcj
      rw [add_block] at hlt
      refine ⟨a2, e, HA2.out a2 e, by have h1 := q3'.size; have h2 := HZ2.out; omega, ?_⟩
      have hb2 : wg2.cell? (a2.add j) = w2.cell? (a2.add j) := World.cell?_of_block (by rw [add_block]; exact HK2.out _ (by have := HA2.out a2 e; omega))
      exact (q3'.cell (by rw [add_block]; have := HZ2.out; omega)).trans (hb2.trans hcj))
  obtain ⟨c0, c1, c2', c3'⟩ := HC.out wg3 (fun gg h1 _ => HK3.out gg (by omega))
  have HWC := Lib.hid (show ∀ W, Below wg3.heap.size wg3 W → W.cell? ad = some (.int .i64 k0) ∧ W.cell? ⟨ad.block, ad.off + 1, none⟩ = some (.int .i64 k1) ∧ W.cell? ⟨ad.block, ad.off + 2, none⟩ = some (.int .i64 k2) ∧ W.cell? ⟨ad.block, ad.off + 3, none⟩ = some (.int .i64 k3) from fun W hb => HC.out W (fun gg h1 h2 => (hb.block gg (by have := HZ3.out; omega)).trans (HK3.out gg (by omega))))
  clear q3 q3' h3 ha3 hc
  go_wp2_with fail
  clear hwg3 x0 x1 x2 f0 f1 f2 y0 y1 y2
  clear c0 c1 c2' c3'
  have HDB := Lib.hid (show Below wg3.heap.size wg3 wg3.drew from drew_below wg3)
  refine wp_region_noPanic ?_
  refine wp_region_held_drew (S := fun W => W.cell? ad = some (.int .i64 k0) ∧ W.cell? ⟨ad.block, ad.off + 1, none⟩ = some (.int .i64 k1) ∧ W.cell? ⟨ad.block, ad.off + 2, none⟩ = some (.int .i64 k2) ∧ W.cell? ⟨ad.block, ad.off + 3, none⟩ = some (.int .i64 k3)) (by kernel_rfl) (HWC.out wg3.drew HDB.out) (fun hHeld => ?_)
  refine wpAnyH_take (i := 0) rfl (by kernel_rfl) (by kernel_rfl) (by kernel_rfl) (fun _ _ _ h => h) (Or.inl ⟨by rfl, by intro W hSW; (try dsimp only at hSW); go_simp; try (with_reducible rfl)⟩) hHeld ?_
  try simp only [Act.put, List.getElem_toArray, List.getElem_cons_zero, List.getElem_cons_succ, List.setIfInBounds_toArray, List.set_cons_zero, List.set_cons_succ]
  refine wpAnyH_take (i := 1) rfl (by kernel_rfl) (by kernel_rfl) (by kernel_rfl) (fun _ _ _ h => h) (Or.inl ⟨by rfl, by intro W hSW; (try dsimp only at hSW); go_simp; try (with_reducible rfl)⟩) hHeld ?_
  try simp only [Act.put, List.getElem_toArray, List.getElem_cons_zero, List.getElem_cons_succ, List.setIfInBounds_toArray, List.set_cons_zero, List.set_cons_succ]
  refine wpAnyH_take (i := 2) rfl (by kernel_rfl) (by kernel_rfl) (by kernel_rfl) (fun _ _ _ h => h) (Or.inl ⟨by rfl, by intro W hSW; (try dsimp only at hSW); go_simp; try (with_reducible rfl)⟩) hHeld ?_
  try simp only [Act.put, List.getElem_toArray, List.getElem_cons_zero, List.getElem_cons_succ, List.setIfInBounds_toArray, List.set_cons_zero, List.set_cons_succ]
  refine wpAnyH_take (i := 3) rfl (by kernel_rfl) (by kernel_rfl) (by kernel_rfl) (fun _ _ _ h => h) (Or.inl ⟨by rfl, by intro W hSW; (try dsimp only at hSW); go_simp; try (with_reducible rfl)⟩) hHeld ?_
  try simp only [Act.put, List.getElem_toArray, List.getElem_cons_zero, List.getElem_cons_succ, List.setIfInBounds_toArray, List.set_cons_zero, List.set_cons_succ]
  refine wpAnyH_take (i := 4) rfl (by kernel_rfl) (by kernel_rfl) (by kernel_rfl) (fun _ _ _ h => h) (Or.inl ⟨by rfl, by intro W hSW; (try dsimp only at hSW); go_simp; try (with_reducible rfl)⟩) hHeld ?_
  try simp only [Act.put, List.getElem_toArray, List.getElem_cons_zero, List.getElem_cons_succ, List.setIfInBounds_toArray, List.set_cons_zero, List.set_cons_succ]
  refine wpAnyH_take (i := 5) rfl (by kernel_rfl) (by kernel_rfl) (by kernel_rfl) (fun _ _ _ h => h) (Or.inl ⟨by rfl, by intro W hSW; (try dsimp only at hSW); go_simp; try (with_reducible rfl)⟩) hHeld ?_
  try simp only [Act.put, List.getElem_toArray, List.getElem_cons_zero, List.getElem_cons_succ, List.setIfInBounds_toArray, List.set_cons_zero, List.set_cons_succ]
  refine wpAnyH_take (i := 6) rfl (by kernel_rfl) (by kernel_rfl) (by kernel_rfl) (fun _ _ _ h => h) (Or.inl ⟨by rfl, by intro W hSW; (try dsimp only at hSW); go_simp; try (with_reducible rfl)⟩) hHeld ?_
  try simp only [Act.put, List.getElem_toArray, List.getElem_cons_zero, List.getElem_cons_succ, List.setIfInBounds_toArray, List.set_cons_zero, List.set_cons_succ]
  refine wpAnyH_take (i := 7) rfl (by kernel_rfl) (by kernel_rfl) (by kernel_rfl) (fun _ _ _ h => h) (Or.inl ⟨by rfl, by intro W hSW; (try dsimp only at hSW); go_simp; try (with_reducible rfl)⟩) hHeld ?_
  try simp only [Act.put, List.getElem_toArray, List.getElem_cons_zero, List.getElem_cons_succ, List.setIfInBounds_toArray, List.set_cons_zero, List.set_cons_succ]
  refine wpAnyH_take (i := 8) rfl (by kernel_rfl) (by kernel_rfl) (by kernel_rfl) (fun _ _ _ h => h) (Or.inl ⟨by rfl, by intro W hSW; (try dsimp only at hSW); go_simp; try (with_reducible rfl)⟩) hHeld ?_
  try simp only [Act.put, List.getElem_toArray, List.getElem_cons_zero, List.getElem_cons_succ, List.setIfInBounds_toArray, List.set_cons_zero, List.set_cons_succ]
  refine wpAnyH_take (i := 9) rfl (by kernel_rfl) (by kernel_rfl) (by kernel_rfl) (fun _ _ _ h => h) (Or.inl ⟨by rfl, by intro W hSW; (try dsimp only at hSW); go_simp; try (with_reducible rfl)⟩) hHeld ?_
  try simp only [Act.put, List.getElem_toArray, List.getElem_cons_zero, List.getElem_cons_succ, List.setIfInBounds_toArray, List.set_cons_zero, List.set_cons_succ]
  refine wpAnyH_take (i := 10) rfl (by kernel_rfl) (by kernel_rfl) (by kernel_rfl) (fun _ _ _ h => h) (Or.inl ⟨by rfl, by intro W hSW; (try dsimp only at hSW); go_simp; try (with_reducible rfl)⟩) hHeld ?_
  try simp only [Act.put, List.getElem_toArray, List.getElem_cons_zero, List.getElem_cons_succ, List.setIfInBounds_toArray, List.set_cons_zero, List.set_cons_succ]
  refine wpAnyH_take (i := 11) rfl (by kernel_rfl) (by kernel_rfl) (by kernel_rfl) (fun _ _ _ h => h) (Or.inl ⟨by rfl, by intro W hSW; (try dsimp only at hSW); go_simp; try (with_reducible rfl)⟩) hHeld ?_
  try simp only [Act.put, List.getElem_toArray, List.getElem_cons_zero, List.getElem_cons_succ, List.setIfInBounds_toArray, List.set_cons_zero, List.set_cons_succ]
  refine wpAnyH_take (i := 12) rfl (by kernel_rfl) (by kernel_rfl) (by kernel_rfl) (fun _ _ _ h => h) (Or.inl ⟨by rfl, by intro W hSW; (try dsimp only at hSW); go_simp; try (with_reducible rfl)⟩) hHeld ?_
  try simp only [Act.put, List.getElem_toArray, List.getElem_cons_zero, List.getElem_cons_succ, List.setIfInBounds_toArray, List.set_cons_zero, List.set_cons_succ]
  refine wpAnyH_take (i := 13) rfl (by kernel_rfl) (by kernel_rfl) (by kernel_rfl) (fun _ _ _ h => h) (Or.inl ⟨by rfl, by intro W hSW; (try dsimp only at hSW); go_simp; try (with_reducible rfl)⟩) hHeld ?_
  try simp only [Act.put, List.getElem_toArray, List.getElem_cons_zero, List.getElem_cons_succ, List.setIfInBounds_toArray, List.set_cons_zero, List.set_cons_succ]
  refine wpAnyH_take (i := 14) rfl (by kernel_rfl) (by kernel_rfl) (by kernel_rfl) (fun _ _ _ h => h) (Or.inl ⟨by rfl, by intro W hSW; (try dsimp only at hSW); go_simp; try (with_reducible rfl)⟩) hHeld ?_
  try simp only [Act.put, List.getElem_toArray, List.getElem_cons_zero, List.getElem_cons_succ, List.setIfInBounds_toArray, List.set_cons_zero, List.set_cons_succ]
  refine wpAnyH_ready (rs := [15]) (by kernel_rfl) (by simp) ?_
  refine AllReadyH.cons rfl (fun K hK => ?_) AllReadyH.nil
  go_simp
  refine hK.out _ _ (HWC.out _ (to_ HDB.out (alloc_ _ _))) ?_
  clear hK K hHeld
  intro hHeld
  try simp only [Act.put, List.getElem_toArray, List.getElem_cons_zero, List.getElem_cons_succ, List.setIfInBounds_toArray, List.set_cons_zero, List.set_cons_succ]
  refine wpAnyH_ready (rs := [16]) (by kernel_rfl) (by simp) ?_
  refine AllReadyH.cons rfl (fun K hK => ?_) AllReadyH.nil
  go_simp
  obtain ⟨wf, hwf⟩ : ∃ wf, (wg3.alloc (.cells #[.int .i64 cl, .slice none 0 0, .int .i64 k0, .bool (k1 == 1), .int .i64 k2, .int .i64 k3, .slice none 0 0, .slice none 0 0, .slice none 0 0] 27)).drew = wf := ⟨_, rfl⟩
  rw [hwf]
  have HFW := Lib.hid (show Below wg3.heap.size wg3 wf from by rw [← hwf]; exact (alloc_ wg3 _).drew)
  refine hK.out _ _ (HWC.out _ HFW.out) ?_
  clear hK K hHeld
  intro hHeld
  try simp only [Act.put, List.getElem_toArray, List.getElem_cons_zero, List.getElem_cons_succ, List.setIfInBounds_toArray, List.set_cons_zero, List.set_cons_succ]
  refine wpAnyH_done (by kernel_rfl) ?_ _
  refine NoPanic.normal ?_
  obtain ⟨ns, hns⟩ : ∃ b, (k1 == 1) = b := ⟨_, rfl⟩
  rw [hns] at hwf
  have HF4' := Lib.hid (fun (h : ¬ 1 < k1) (h2 : t4.2 = true) => show hE = 0 ∧ hF = ⟨cl, ks, k0, ns, k2, k3, vs.map ln2, [], []⟩ from by rw [← hns, beq_dec]; exact HF4.out (by omega) h2)
  have HJF := Lib.hid (HG3.out.up HFW.out)
  have HBF := Lib.hid (show Blk wf wg3.heap.size 27 #[.int .i64 cl, .slice none 0 0, .int .i64 k0, .bool ns, .int .i64 k2, .int .i64 k3, .slice none 0 0, .slice none 0 0, .slice none 0 0] from by rw [← hwf]; exact Blk.new wg3 _ _)
  have HKF := Lib.hid (show ∀ gg, w.heap.size + 2 < gg → gg < wg3.heap.size → wf.heap[gg]? = w3.heap[gg]? from fun gg h1 h2 => (HFW.out.block gg h2).trans (HK3.out gg (by omega)))
  have HDL := Lib.hid (show w.heap.size + 2 < wg3.heap.size from HG3.out.sz)
  clear hHeld hwf hns HF4 HDB HWC
  go_wp2_with fail
  go_loopw [9] (fun i wr => ∃ (q : Nat) (v : Value), q ≤ N1 ∧ i = .int .i64 (q : Int) ∧ HJ0 w #[.slice A n c, .int .i64 (p3 : Int), .bool b3] wr ∧ Blk wr wg3.heap.size 27 #[.int .i64 cl, v, .int .i64 k0, .bool ns, .int .i64 k2, .int .i64 k3, .slice none 0 0, .slice none 0 0, .slice none 0 0] ∧ wr.ownsRow (wg3.heap.size + 1) 3 1 v q (ints (ks.take q)) ∧ Hid (∀ gg, w.heap.size + 2 < gg → gg < wg3.heap.size → wr.heap[gg]? = w3.heap[gg]?)) (fun i _ => N1 - (intOf i).toNat)
  case atStart => exact ⟨0, _, Nat.zero_le _, rfl, HJF.out, HBF.out, World.ownsRow_nil _ _ _ _, HKF⟩
  case round =>
    obtain ⟨q, v, hq, rfl, hj, hbd, hown, HKP⟩ := hrel
    have HJW := Lib.hid hj
    have HBD := Lib.hid hbd
    have HOW := Lib.hid hown
    clear hj hbd hown
    by_cases hlt : q < N1
    · have hqI : (q : Int) < (N1 : Int) := by omega
      have HLT := Lib.hid hlt
      obtain ⟨a2, hA2, hlo, hhi, hc2⟩ := HE2.out q hlt
      have HHI := Lib.hid (show w.heap.size + 2 < a2.block ∧ a2.block < wg3.heap.size from ⟨hlo, by have := HZ3.out; omega⟩)
      have hhi9 : a2.block < wg3.heap.size := HHI.out.2
      have ce : wr.cell? (a2.add q) = some (.int .i64 (el ks q)) := (World.cell?_of_block (a := a2.add q) (by rw [add_block]; exact HKP.out _ hlo hhi9)).trans hc2
      have HTK := Lib.hid (el_take ks q (by rw [HKL.out]; exact hlt))
      subst hA2
      generalize el ks q = z at ce HTK
      have cD : wr.cell? ⟨wg3.heap.size, 1, none⟩ = some v := HBD.out.cell 1
      have cA2 : (wr.alloc (.cells #[.int .i64 z] 3)).cell? ⟨wg3.heap.size, 1, none⟩ = some v := (HBD.out.alloc _).cell 1
      have cA : (wr.drew.alloc (.cells #[.int .i64 z] 3)).cell? ⟨wg3.heap.size, 1, none⟩ = some v := ((HBD.out.below (drew_below wr) HBD.out.lt).alloc _).cell 1
      have SA : ∀ o : Obj, (wr.drew.alloc o).cell? (a2.add q) = some (.int .i64 z) := fun o => ((to_ (drew_below wr) (alloc_ wr.drew o)).cell (by rw [add_block]; have := HBD.out.lt; omega)).trans ce
      have HSA := Lib.hid SA
      clear hc2 hlo hhi SA
      go_wp2_with fail
      refine wp_region_noPanic ?_
      refine wp_region_held_drew (S := fun W => W.cell? (a2.add q) = some (.int .i64 z)) (by kernel_rfl) (ce) (fun hHeld => ?_)
      refine wpAnyH_take (i := 0) rfl (by kernel_rfl) (by kernel_rfl) (by kernel_rfl) (fun _ _ _ h => h) (Or.inl ⟨by rfl, by intro W hSW; (try dsimp only at hSW); go_simp; try (with_reducible rfl)⟩) hHeld ?_
      try simp only [Act.put, List.getElem_toArray, List.getElem_cons_zero, List.getElem_cons_succ, List.setIfInBounds_toArray, List.set_cons_zero, List.set_cons_succ]
      refine wpAnyH_take (i := 2) rfl (by kernel_rfl) (by kernel_rfl) (by kernel_rfl) (fun _ _ _ h => h) (Or.inl ⟨by rfl, by intro W hSW; (try dsimp only at hSW); go_simp; try (with_reducible rfl)⟩) hHeld ?_
      try simp only [Act.put, List.getElem_toArray, List.getElem_cons_zero, List.getElem_cons_succ, List.setIfInBounds_toArray, List.set_cons_zero, List.set_cons_succ]
      refine wpAnyH_take (i := 3) rfl (by kernel_rfl) (by kernel_rfl) (by kernel_rfl) (fun _ _ _ h => h) (Or.inl ⟨by rfl, by intro W hSW; (try dsimp only at hSW); go_simp; try (with_reducible rfl)⟩) hHeld ?_
      try simp only [Act.put, List.getElem_toArray, List.getElem_cons_zero, List.getElem_cons_succ, List.setIfInBounds_toArray, List.set_cons_zero, List.set_cons_succ]
      refine wpAnyH_take (i := 4) rfl (by kernel_rfl) (by kernel_rfl) (by kernel_rfl) (fun _ _ _ h => h) (Or.inl ⟨by rfl, by intro W hSW; (try dsimp only at hSW); go_simp; try (with_reducible rfl)⟩) hHeld ?_
      try simp only [Act.put, List.getElem_toArray, List.getElem_cons_zero, List.getElem_cons_succ, List.setIfInBounds_toArray, List.set_cons_zero, List.set_cons_succ]
      refine wpAnyH_take (i := 5) rfl (by kernel_rfl) (by kernel_rfl) (by kernel_rfl) (fun _ _ _ h => h) (Or.inl ⟨by rfl, by intro W hSW; (try dsimp only at hSW); go_simp; try (with_reducible rfl)⟩) hHeld ?_
      try simp only [Act.put, List.getElem_toArray, List.getElem_cons_zero, List.getElem_cons_succ, List.setIfInBounds_toArray, List.set_cons_zero, List.set_cons_succ]
      refine wpAnyH_ready (rs := [1, 6]) (by kernel_rfl) (by simp) ?_
      refine AllReadyH.cons rfl (fun K hK => ?_) (AllReadyH.cons rfl (fun K hK => ?_) AllReadyH.nil)
      · go_simp
        refine hK.out _ _ (ce) ?_
        clear hK K hHeld
        intro hHeld
        try simp only [Act.put, List.getElem_toArray, List.getElem_cons_zero, List.getElem_cons_succ, List.setIfInBounds_toArray, List.set_cons_zero, List.set_cons_succ]
        refine wpAnyH_ready (rs := [6]) (by kernel_rfl) (by simp) ?_
        refine AllReadyH.cons rfl (fun K hK => ?_) AllReadyH.nil
        go_simp
        refine hK.out _ _ (HSA.out _) ?_
        clear hK K hHeld
        intro hHeld
        try simp only [Act.put, List.getElem_toArray, List.getElem_cons_zero, List.getElem_cons_succ, List.setIfInBounds_toArray, List.set_cons_zero, List.set_cons_succ]
        refine wpAnyH_ready (rs := [7]) (by kernel_rfl) (by simp) ?_
        refine AllReadyH.cons rfl (fun K hK => ?_) AllReadyH.nil
        refine step_append_own rfl _ _ 22 rfl (wg3.heap.size + 1) 3 iI (.int .i64 0) 1 8 Tryz.underlying22 hiI hzI0 hzI1 hzI2 rfl (by decide) _ q (ints (ks.take q)) rfl (ownk_keep HOW.out fun gg hb hlt => Below.heap_alloc _ _ _ hlt) ⟨wr.heap.size, 0, none⟩ 1 [.int .i64 z] rfl rfl (fun j u hu => by rw [add_plain, Nat.zero_add]; exact ((Blk.new wr.drew 3 #[.int .i64 z]).cell j).trans (by simpa using hu)) (by simp [Value.oneCell']) (by unfold maxLen; have := HN1.out; have := HLT.out; omega) (by have := HN1.out; have := HLT.out; omega) (by have := HBD.out.lt; simp; omega) ?_
        intro v' w6 h2 h3
        obtain ⟨A', c', rfl⟩ := own_formW h2
        have H2 := Lib.hid h2
        have hsz : wg3.heap.size + 1 ≤ wr.heap.size := HBD.out.lt
        have hb6 : Below (wg3.heap.size + 1) wr w6 := (((drew_below wr).mono hsz).trans ((alloc_ wr.drew _).mono hsz)).grown h3 (by simp; omega) (fun r e => (HOW.out.lt r e).1)
        have HB6 := Lib.hid hb6
        have HBD6 := Lib.hid (HBD.out.below hb6 (by omega))
        have hS6 : w6.cell? (a2.add q) = some (.int .i64 z) := (hb6.cell (by rw [add_block]; omega)).trans ce
        have HS6 := Lib.hid hS6
        clear h2 h3 hb6 hsz
        refine hK.out _ _ (hS6) ?_
        clear hK K hHeld
        intro hHeld
        try simp only [Act.put, List.getElem_toArray, List.getElem_cons_zero, List.getElem_cons_succ, List.setIfInBounds_toArray, List.set_cons_zero, List.set_cons_succ]
        refine wpAnyH_take (i := 8) rfl (by kernel_rfl) (by kernel_rfl) (by kernel_rfl) (fun _ _ _ h => h) (Or.inl ⟨by rfl, by intro W hSW; (try dsimp only at hSW); go_simp; try (with_reducible rfl)⟩) hHeld ?_
        try simp only [Act.put, List.getElem_toArray, List.getElem_cons_zero, List.getElem_cons_succ, List.setIfInBounds_toArray, List.set_cons_zero, List.set_cons_succ]
        have cD6 : w6.cell? ⟨wg3.heap.size, 1, none⟩ = some v := HBD6.out.cell 1
        have fD6 : w6.frozen? ⟨wg3.heap.size, 1, none⟩ = false := HBD6.out.frozen 1
        refine wpAnyH_ready (rs := [9]) (by kernel_rfl) (by simp) ?_
        refine AllReadyH.cons rfl (fun K hK => ?_) AllReadyH.nil
        go_simp
        refine hK.out _ _ ((World.cell?_of_block (a := a2.add q) (Below.heap_setCell _ ⟨wg3.heap.size, 1, none⟩ _ _ (by rw [add_block]; show a2.block ≠ wg3.heap.size; have := HHI.out; omega))).trans HS6.out) ?_
        clear hK K hHeld
        intro hHeld
        try simp only [Act.put, List.getElem_toArray, List.getElem_cons_zero, List.getElem_cons_succ, List.setIfInBounds_toArray, List.set_cons_zero, List.set_cons_succ]
        refine wpAnyH_done (by kernel_rfl) ?_ _
        refine NoPanic.normal ?_
        have hN9 := HN1.out
        go_wp2_with fail
        clear cD cD6 fD6 hS6 ce cA cA2
        go_roundw
        case rel =>
          refine ⟨q + 1, _, by have := HLT.out; omega, by go_num, (HJW.out.on HB6.out (by have := HDL.out; omega)).far ⟨wg3.heap.size, 1, none⟩ _ (by show w.heap.size + 2 < wg3.heap.size; exact HDL.out), HBD6.out.stored 1 _, ?_, Lib.hid fun gg h1 h2 => (Below.heap_setCell _ ⟨wg3.heap.size, 1, none⟩ _ gg (by show gg ≠ wg3.heap.size; omega)).trans ((HB6.out.block gg (by omega)).trans (HKP.out gg h1 h2))⟩
          rw [HTK.out]
          exact ownk_keep H2.out fun gg hb _ => Below.heap_setCell _ ⟨wg3.heap.size, 1, none⟩ _ gg (by show gg ≠ wg3.heap.size; omega)
        case measure => have := HLT.out; simp [intOf]; omega
      · go_simp
        refine hK.out _ _ (HSA.out _) ?_
        clear hK K hHeld
        intro hHeld
        try simp only [Act.put, List.getElem_toArray, List.getElem_cons_zero, List.getElem_cons_succ, List.setIfInBounds_toArray, List.set_cons_zero, List.set_cons_succ]
        refine wpAnyH_ready (rs := [1]) (by kernel_rfl) (by simp) ?_
        refine AllReadyH.cons rfl (fun K hK => ?_) AllReadyH.nil
        go_simp
        refine hK.out _ _ (HSA.out _) ?_
        clear hK K hHeld
        intro hHeld
        try simp only [Act.put, List.getElem_toArray, List.getElem_cons_zero, List.getElem_cons_succ, List.setIfInBounds_toArray, List.set_cons_zero, List.set_cons_succ]
        refine wpAnyH_ready (rs := [7]) (by kernel_rfl) (by simp) ?_
        refine AllReadyH.cons rfl (fun K hK => ?_) AllReadyH.nil
        refine step_append_own rfl _ _ 22 rfl (wg3.heap.size + 1) 3 iI (.int .i64 0) 1 8 Tryz.underlying22 hiI hzI0 hzI1 hzI2 rfl (by decide) _ q (ints (ks.take q)) rfl (ownk_keep HOW.out fun gg hb hlt => Below.heap_alloc _ _ _ hlt) ⟨wr.heap.size, 0, none⟩ 1 [.int .i64 z] rfl rfl (fun j u hu => by rw [add_plain, Nat.zero_add]; exact ((Blk.new wr.drew 3 #[.int .i64 z]).cell j).trans (by simpa using hu)) (by simp [Value.oneCell']) (by unfold maxLen; have := HN1.out; have := HLT.out; omega) (by have := HN1.out; have := HLT.out; omega) (by have := HBD.out.lt; simp; omega) ?_
        intro v' w6 h2 h3
        obtain ⟨A', c', rfl⟩ := own_formW h2
        have H2 := Lib.hid h2
        have hsz : wg3.heap.size + 1 ≤ wr.heap.size := HBD.out.lt
        have hb6 : Below (wg3.heap.size + 1) wr w6 := (((drew_below wr).mono hsz).trans ((alloc_ wr.drew _).mono hsz)).grown h3 (by simp; omega) (fun r e => (HOW.out.lt r e).1)
        have HB6 := Lib.hid hb6
        have HBD6 := Lib.hid (HBD.out.below hb6 (by omega))
        have hS6 : w6.cell? (a2.add q) = some (.int .i64 z) := (hb6.cell (by rw [add_block]; omega)).trans ce
        have HS6 := Lib.hid hS6
        clear h2 h3 hb6 hsz
        refine hK.out _ _ (hS6) ?_
        clear hK K hHeld
        intro hHeld
        try simp only [Act.put, List.getElem_toArray, List.getElem_cons_zero, List.getElem_cons_succ, List.setIfInBounds_toArray, List.set_cons_zero, List.set_cons_succ]
        refine wpAnyH_take (i := 8) rfl (by kernel_rfl) (by kernel_rfl) (by kernel_rfl) (fun _ _ _ h => h) (Or.inl ⟨by rfl, by intro W hSW; (try dsimp only at hSW); go_simp; try (with_reducible rfl)⟩) hHeld ?_
        try simp only [Act.put, List.getElem_toArray, List.getElem_cons_zero, List.getElem_cons_succ, List.setIfInBounds_toArray, List.set_cons_zero, List.set_cons_succ]
        have cD6 : w6.cell? ⟨wg3.heap.size, 1, none⟩ = some v := HBD6.out.cell 1
        have fD6 : w6.frozen? ⟨wg3.heap.size, 1, none⟩ = false := HBD6.out.frozen 1
        refine wpAnyH_ready (rs := [9]) (by kernel_rfl) (by simp) ?_
        refine AllReadyH.cons rfl (fun K hK => ?_) AllReadyH.nil
        go_simp
        refine hK.out _ _ ((World.cell?_of_block (a := a2.add q) (Below.heap_setCell _ ⟨wg3.heap.size, 1, none⟩ _ _ (by rw [add_block]; show a2.block ≠ wg3.heap.size; have := HHI.out; omega))).trans HS6.out) ?_
        clear hK K hHeld
        intro hHeld
        try simp only [Act.put, List.getElem_toArray, List.getElem_cons_zero, List.getElem_cons_succ, List.setIfInBounds_toArray, List.set_cons_zero, List.set_cons_succ]
        refine wpAnyH_done (by kernel_rfl) ?_ _
        refine NoPanic.normal ?_
        have hN9 := HN1.out
        go_wp2_with fail
        clear cD cD6 fD6 hS6 ce cA cA2
        go_roundw
        case rel =>
          refine ⟨q + 1, _, by have := HLT.out; omega, by go_num, (HJW.out.on HB6.out (by have := HDL.out; omega)).far ⟨wg3.heap.size, 1, none⟩ _ (by show w.heap.size + 2 < wg3.heap.size; exact HDL.out), HBD6.out.stored 1 _, ?_, Lib.hid fun gg h1 h2 => (Below.heap_setCell _ ⟨wg3.heap.size, 1, none⟩ _ gg (by show gg ≠ wg3.heap.size; omega)).trans ((HB6.out.block gg (by omega)).trans (HKP.out gg h1 h2))⟩
          rw [HTK.out]
          exact ownk_keep H2.out fun gg hb _ => Below.heap_setCell _ ⟨wg3.heap.size, 1, none⟩ _ gg (by show gg ≠ wg3.heap.size; omega)
        case measure => have := HLT.out; simp [intOf]; omega
    · obtain rfl : q = N1 := by omega
      have hks : ks.take q = ks := List.take_of_length_le (by rw [HKL.out]; exact Nat.le_refl _)
      rw [hks] at HOW
      obtain ⟨AK, cK, rfl⟩ := own_formW HOW.out
      obtain ⟨c0, c1, c2', c3'⟩ := HC.out wr (fun gg h1 h2 => HKP.out gg h1 (by have := HZ3.out; omega))
      clear hks hlt hq
      by_cases h1 : 1 < k1
      · obtain ⟨W9, hW9⟩ : ∃ W9, set9 ((((wr).setCell ⟨w.heap.size + 1, 0, none⟩ (.slice A n c)).setCell ⟨w.heap.size + 1, 1, none⟩ (.int .i64 (p3 : Int))).setCell ⟨w.heap.size + 1, 2, none⟩ (.bool b3)) (w.heap.size + 1 + 1) (.int .i64 0) (.slice none 0 0) (.int .i64 0) (.bool false) (.int .i64 0) (.int .i64 0) (.slice none 0 0) (.slice none 0 0) (.slice none 0 0) = W9 := ⟨_, rfl⟩
        have HPZ := Lib.hid (HJ0.put HJW.out (.slice A n c) (.int .i64 (p3 : Int)) (.bool b3) (.int .i64 0) (.slice none 0 0) (.int .i64 0) (.bool false) (.int .i64 0) (.int .i64 0) (.slice none 0 0) (.slice none 0 0) (.slice none 0 0) W9 hW9)
        obtain ⟨y0, y1, y2⟩ := blk_ce3 HJW.out.1.1
        obtain ⟨r0, r1, r2⟩ := blk_ce3 HJW.out.1.2.1
        obtain ⟨q0, q1, q2⟩ := blk_fr3 HJW.out.1.2.1
        obtain ⟨u0, u1, u2, u3, u4, u5, u6, u7, u8⟩ := blk9 HJW.out.1.2.2
        obtain ⟨m0, m1, m2, m3, m4, m5, m6, m7, m8⟩ := blk9f HJW.out.1.2.2
        go_wp2_with fail
        unfold set9 at hW9
        rw [hW9]
        clear y0 y1 y2 r0 r1 r2 q0 q1 q2 u0 u1 u2 u3 u4 u5 u6 u7 u8 m0 m1 m2 m3 m4 m5 m6 m7 m8
        obtain ⟨z0, z1, z2⟩ := blk_ce3 HPZ.out.1
        obtain ⟨m0, m1, m2, m3, m4, m5, m6, m7, m8⟩ := blk9 HPZ.out.2.1
        refine bodyPost_ret (v := .tuple #[.agg #[.slice A n c, .int .i64 (p3 : Int), .bool b3], .agg #[.int .i64 0, .slice none 0 0, .int .i64 0, .bool false, .int .i64 0, .int .i64 0, .slice none 0 0, .slice none 0 0, .slice none 0 0], .int .i64 3]) (by simp [results, Tryz.results85, go_sem, z0, z1, z2, m0, m1, m2, m3, m4, m5, m6, m7, m8]) rfl ?_
        obtain ⟨e1, e2, e3⟩ := HF1.out (by omega)
        rw [e1, e2, e3, HR3.out]
        exact ⟨none, 0, none, 0, rfl, .nil, Wd.nil, (fun _ e => nomatch e), (fun _ e => nomatch e), HPZ.out.2.2.1⟩
      · obtain ⟨x0, x1, x2⟩ := blk_ce3 HJW.out.1.1
        go_wp2_with fail
        clear x0 x1 x2 c0 c1 c2' c3'
        refine (HQ4.out wr HJW.out.2).mono ?_
        rintro e w5 ⟨A4, c4, rfl, h4, q4, ha4⟩
        have HJ5 := Lib.hid (HJW.out.up q4)
        obtain ⟨x0, x1, x2⟩ := blk_ce3 HJ5.out.1.1
        obtain ⟨f0, f1, f2⟩ := blk_fr3 HJ5.out.1.1
        obtain ⟨wg5, hwg5⟩ : ∃ wg, (((w5).setCell ⟨w.heap.size, 0, none⟩ (.slice A n c)).setCell ⟨w.heap.size, 1, none⟩ (.int .i64 (p4 : Int))).setCell ⟨w.heap.size, 2, none⟩ (.bool b4) = wg := ⟨_, rfl⟩
        have HG5 := Lib.hid (show HJ0 w #[.slice A n c, .int .i64 (p4 : Int), .bool b4] wg5 from by rw [← hwg5]; exact HJ5.out.rd _ _ _)
        have HK5 := Lib.hid (show ∀ gg, gg ≠ w.heap.size → wg5.heap[gg]? = w5.heap[gg]? from fun gg hne => by rw [← hwg5]; exact heap_put3 w5 w.heap.size gg hne _ _ _)
        have HZ5 := Lib.hid (show wg5.heap.size = w5.heap.size from by rw [← hwg5]; simp [World.setCell])
        obtain ⟨y0, y1, y2⟩ := blk_ce3 HG5.out.1.1
        have HSW := Lib.hid (show wg3.heap.size < wr.heap.size from HBD.out.lt)
        have HE4 := Lib.hid (show ∀ j, j < N2 → ∃ a4, A4 = some a4 ∧ wg3.heap.size < a4.block ∧ a4.block < wg5.heap.size ∧ wg5.cell? (a4.add j) = some (.int .i64 (el vs j)) from fun j hj => by
          rcases ints_row (A := A4) (c := c4) (l := vs) (by rw [HVL.out]; exact h4) with ⟨h0, _⟩ | ⟨a4, e, _, hc4⟩
          · have h9 := HVL.out; rw [h0] at h9; simp at h9; omega
          · have hcj := hc4 j (by rw [HVL.out]; exact hj)
            have hlt := World.block_lt_of_cell? _ _ hcj
            rw [add_block] at hlt
            have h8 := ha4 a4 e
            have h7 := HSW.out
            refine ⟨a4, e, by omega, by have := HZ5.out; omega, ?_⟩
            exact (World.cell?_of_block (a := a4.add j) (by rw [add_block]; exact HK5.out _ (by have := HDL.out; omega))).trans hcj)
        have HBD5 := Lib.hid (show Blk wg5 wg3.heap.size 27 #[.int .i64 cl, .slice AK q cK, .int .i64 k0, .bool ns, .int .i64 k2, .int .i64 k3, .slice none 0 0, .slice none 0 0, .slice none 0 0] from (HK5.out _ (by have := HDL.out; omega)).trans ((q4.block _ HBD.out.lt).trans HBD.out))
        have HOK5 := Lib.hid (show wg5.ownsRow (wg3.heap.size + 1) 3 1 (.slice AK q cK) q (ints ks) from ownk_keep HOW.out fun gg hb hlt => (HK5.out gg (by have := HDL.out; omega)).trans (q4.block gg hlt))
        have HS5 := Lib.hid (show wg3.heap.size < wg5.heap.size from by have h7 := HSW.out; have h8 := HZ5.out; have h9 := q4.size; omega)
        clear q4 h4 ha4
        go_wp2_with fail
        clear hwg5 x0 x1 x2 f0 f1 f2 y0 y1 y2
        go_loopw [11] (fun i wr => ∃ (k : Nat) (v : Value), k ≤ N2 ∧ i = .int .i64 (k : Int) ∧ HJ0 w #[.slice A n c, .int .i64 (p4 : Int), .bool b4] wr ∧ Blk wr wg3.heap.size 27 #[.int .i64 cl, .slice AK q cK, .int .i64 k0, .bool ns, .int .i64 k2, .int .i64 k3, v, .slice none 0 0, .slice none 0 0] ∧ wr.ownsRow wg5.heap.size 85 2 v k (flLn ((vs.map ln2).take k)) ∧ Hid (wg5.heap.size ≤ wr.heap.size) ∧ Hid (∀ gg, w.heap.size + 2 < gg → gg < wg5.heap.size → gg ≠ wg3.heap.size → wr.heap[gg]? = wg5.heap[gg]?)) (fun i _ => N2 - (intOf i).toNat)
        case atStart => exact ⟨0, _, Nat.zero_le _, rfl, HG5.out, HBD5.out, World.ownsRow_nil _ _ _ _, Lib.hid (Nat.le_refl _), Lib.hid (fun gg _ _ _ => rfl)⟩
        case round =>
          obtain ⟨k, v, hk, rfl, hj, hbd, hown, HSZ, HKP2⟩ := hrel
          have HJ2 := Lib.hid hj
          have HB2 := Lib.hid hbd
          have HO2 := Lib.hid hown
          clear hj hbd hown
          by_cases hlt : k < N2
          · have hkI : (k : Int) < (N2 : Int) := by omega
            have HLT := Lib.hid hlt
            obtain ⟨a4, hA4, hlo, hhi, hc4⟩ := HE4.out k hlt
            have HHI := Lib.hid (show wg3.heap.size < a4.block ∧ a4.block < wg5.heap.size from ⟨hlo, hhi⟩)
            have ce : wr.cell? (a4.add k) = some (.int .i64 (el vs k)) := (World.cell?_of_block (a := a4.add k) (by rw [add_block]; exact HKP2.out _ (by have := HDL.out; omega) hhi (by omega))).trans hc4
            have HTK := Lib.hid (ln_take vs k (by rw [HVL.out]; exact hlt))
            have hvi := HVI.out k
            subst hA4
            generalize el vs k = z at ce HTK hvi
            obtain ⟨za, hza⟩ : ∃ a, z / 65536 = a := ⟨_, rfl⟩
            obtain ⟨zb, hzb⟩ : ∃ a, z % 65536 = a := ⟨_, rfl⟩
            rw [hza, hzb] at HTK
            have hqa : IntKind.i64.wrap (z.tdiv 65536) = za := by rw [Int.tdiv_eq_ediv_of_nonneg hvi.1, hza]; exact IntWalk.i64_in _ (by omega)
            have hqb : IntKind.i64.wrap (z.tmod 65536) = zb := by rw [Int.tmod_eq_emod_of_nonneg hvi.1, hzb]; exact IntWalk.i64_in _ (by omega)
            have hqb' : z.tmod 65536 = zb := by rw [Int.tmod_eq_emod_of_nonneg hvi.1, hzb]
            have cD : wr.cell? ⟨wg3.heap.size, 6, none⟩ = some v := HB2.out.cell 6
            have cA2 : (wr.alloc (.cells #[.int .i64 za, .int .i64 zb] 85)).cell? ⟨wg3.heap.size, 6, none⟩ = some v := (HB2.out.alloc _).cell 6
            have cA : (wr.drew.alloc (.cells #[.int .i64 za, .int .i64 zb] 85)).cell? ⟨wg3.heap.size, 6, none⟩ = some v := ((HB2.out.below (drew_below wr) HB2.out.lt).alloc _).cell 6
            have HSA := Lib.hid (show ∀ o : Obj, (wr.drew.alloc o).cell? (a4.add k) = some (.int .i64 z) from fun o => ((to_ (drew_below wr) (alloc_ wr.drew o)).cell (by rw [add_block]; have := HSZ.out; omega)).trans ce)
            clear hc4 hlo hhi hza hzb hvi
            go_wp2_with fail
            refine wp_region_noPanic ?_
            refine wp_region_held_drew (S := fun W => W.cell? (a4.add k) = some (.int .i64 z)) (by kernel_rfl) (ce) (fun hHeld => ?_)
            refine wpAnyH_take (i := 0) rfl (by kernel_rfl) (by kernel_rfl) (by kernel_rfl) (fun _ _ _ h => h) (Or.inl ⟨by rfl, by intro W hSW; (try dsimp only at hSW); go_simp; try (with_reducible rfl)⟩) hHeld ?_
            try simp only [Act.put, List.getElem_toArray, List.getElem_cons_zero, List.getElem_cons_succ, List.setIfInBounds_toArray, List.set_cons_zero, List.set_cons_succ]
            refine wpAnyH_take (i := 2) rfl (by kernel_rfl) (by kernel_rfl) (by kernel_rfl) (fun _ _ _ h => h) (Or.inl ⟨by rfl, by intro W hSW; (try dsimp only at hSW); go_simp; try (with_reducible rfl)⟩) hHeld ?_
            try simp only [Act.put, List.getElem_toArray, List.getElem_cons_zero, List.getElem_cons_succ, List.setIfInBounds_toArray, List.set_cons_zero, List.set_cons_succ]
            refine wpAnyH_take (i := 3) rfl (by kernel_rfl) (by kernel_rfl) (by kernel_rfl) (fun _ _ _ h => h) (Or.inl ⟨by rfl, by intro W hSW; (try dsimp only at hSW); go_simp; try (with_reducible rfl)⟩) hHeld ?_
            try simp only [Act.put, List.getElem_toArray, List.getElem_cons_zero, List.getElem_cons_succ, List.setIfInBounds_toArray, List.set_cons_zero, List.set_cons_succ]
            refine wpAnyH_take (i := 7) rfl (by kernel_rfl) (by kernel_rfl) (by kernel_rfl) (fun _ _ _ h => h) (Or.inl ⟨by rfl, by intro W hSW; (try dsimp only at hSW); go_simp; try (with_reducible rfl)⟩) hHeld ?_
            try simp only [Act.put, List.getElem_toArray, List.getElem_cons_zero, List.getElem_cons_succ, List.setIfInBounds_toArray, List.set_cons_zero, List.set_cons_succ]
            refine wpAnyH_take (i := 8) rfl (by kernel_rfl) (by kernel_rfl) (by kernel_rfl) (fun _ _ _ h => h) (Or.inl ⟨by rfl, by intro W hSW; (try dsimp only at hSW); go_simp; try (with_reducible rfl)⟩) hHeld ?_
            try simp only [Act.put, List.getElem_toArray, List.getElem_cons_zero, List.getElem_cons_succ, List.setIfInBounds_toArray, List.set_cons_zero, List.set_cons_succ]
            refine wpAnyH_take (i := 4) rfl (by kernel_rfl) (by kernel_rfl) (by kernel_rfl) (fun _ _ _ h => h) (Or.inl ⟨by rfl, by intro W hSW; (try dsimp only at hSW); go_simp; try (with_reducible rfl)⟩) hHeld ?_
            try simp only [Act.put, List.getElem_toArray, List.getElem_cons_zero, List.getElem_cons_succ, List.setIfInBounds_toArray, List.set_cons_zero, List.set_cons_succ]
            refine wpAnyH_take (i := 5) rfl (by kernel_rfl) (by kernel_rfl) (by kernel_rfl) (fun _ _ _ h => h) (Or.inl ⟨by rfl, by intro W hSW; (try dsimp only at hSW); go_simp; try (with_reducible rfl)⟩) hHeld ?_
            try simp only [Act.put, List.getElem_toArray, List.getElem_cons_zero, List.getElem_cons_succ, List.setIfInBounds_toArray, List.set_cons_zero, List.set_cons_succ]
            refine wpAnyH_take (i := 6) rfl (by kernel_rfl) (by kernel_rfl) (by kernel_rfl) (fun _ _ _ h => h) (Or.inl ⟨by rfl, by intro W hSW; (try dsimp only at hSW); go_simp; try (with_reducible rfl)⟩) hHeld ?_
            try simp only [Act.put, List.getElem_toArray, List.getElem_cons_zero, List.getElem_cons_succ, List.setIfInBounds_toArray, List.set_cons_zero, List.set_cons_succ]
            refine wpAnyH_take (i := 9) rfl (by kernel_rfl) (by kernel_rfl) (by kernel_rfl) (fun _ _ _ h => h) (Or.inl ⟨by rfl, by intro W hSW; (try dsimp only at hSW); go_simp; try (with_reducible rfl)⟩) hHeld ?_
            try simp only [Act.put, List.getElem_toArray, List.getElem_cons_zero, List.getElem_cons_succ, List.setIfInBounds_toArray, List.set_cons_zero, List.set_cons_succ]
            refine wpAnyH_take (i := 10) rfl (by kernel_rfl) (by kernel_rfl) (by kernel_rfl) (fun _ _ _ h => h) (Or.inl ⟨by rfl, by intro W hSW; (try dsimp only at hSW); go_simp; try (with_reducible rfl)⟩) hHeld ?_
            try simp only [Act.put, List.getElem_toArray, List.getElem_cons_zero, List.getElem_cons_succ, List.setIfInBounds_toArray, List.set_cons_zero, List.set_cons_succ]
            refine wpAnyH_take (i := 11) rfl (by kernel_rfl) (by kernel_rfl) (by kernel_rfl) (fun _ _ _ h => h) (Or.inl ⟨by rfl, by intro W hSW; (try dsimp only at hSW); go_simp; try (with_reducible rfl)⟩) hHeld ?_
            try simp only [Act.put, List.getElem_toArray, List.getElem_cons_zero, List.getElem_cons_succ, List.setIfInBounds_toArray, List.set_cons_zero, List.set_cons_succ]
            refine wpAnyH_take (i := 12) rfl (by kernel_rfl) (by kernel_rfl) (by kernel_rfl) (fun _ _ _ h => h) (Or.inl ⟨by rfl, by intro W hSW; (try dsimp only at hSW); go_simp; try (with_reducible rfl)⟩) hHeld ?_
            try simp only [Act.put, List.getElem_toArray, List.getElem_cons_zero, List.getElem_cons_succ, List.setIfInBounds_toArray, List.set_cons_zero, List.set_cons_succ]
            refine wpAnyH_ready (rs := [1, 13]) (by kernel_rfl) (by simp) ?_
            refine AllReadyH.cons rfl (fun K hK => ?_) (AllReadyH.cons rfl (fun K hK => ?_) AllReadyH.nil)
            · go_simp
              refine hK.out _ _ (ce) ?_
              clear hK K hHeld
              intro hHeld
              try simp only [Act.put, List.getElem_toArray, List.getElem_cons_zero, List.getElem_cons_succ, List.setIfInBounds_toArray, List.set_cons_zero, List.set_cons_succ]
              refine wpAnyH_ready (rs := [13]) (by kernel_rfl) (by simp) ?_
              refine AllReadyH.cons rfl (fun K hK => ?_) AllReadyH.nil
              go_simp
              refine hK.out _ _ (HSA.out _) ?_
              clear hK K hHeld
              intro hHeld
              try simp only [Act.put, List.getElem_toArray, List.getElem_cons_zero, List.getElem_cons_succ, List.setIfInBounds_toArray, List.set_cons_zero, List.set_cons_succ]
              refine wpAnyH_ready (rs := [14]) (by kernel_rfl) (by simp) ?_
              refine AllReadyH.cons rfl (fun K hK => ?_) AllReadyH.nil
              refine step_append_own rfl _ _ 23 rfl wg5.heap.size 85 iL (.agg #[.int .i64 0, .int .i64 0]) 2 16 Tryz.underlying23 hiL hzL0 hzL1 hzL2 rfl (by decide) _ k (flLn ((vs.map ln2).take k)) rfl (ownk_keep HO2.out fun gg hb hlt => Below.heap_alloc _ _ _ hlt) ⟨wr.heap.size, 0, none⟩ 1 [.int .i64 za, .int .i64 zb] rfl rfl (fun j u hu => by rw [add_plain, Nat.zero_add]; exact ((Blk.new wr.drew 85 #[.int .i64 za, .int .i64 zb]).cell j).trans (by simpa using hu)) (by simp [Value.oneCell']) (by unfold maxLen; have := HN2.out; have := HLT.out; omega) (by have := HN2.out; have := HLT.out; omega) (by have := HSZ.out; simp; omega) ?_
              intro v' w6 h2 h3
              obtain ⟨A', c', rfl⟩ := own_formW h2
              have H2 := Lib.hid h2
              have hsz : wg5.heap.size ≤ wr.heap.size := HSZ.out
              have hb6 : Below wg5.heap.size wr w6 := (((drew_below wr).mono hsz).trans ((alloc_ wr.drew _).mono hsz)).grown h3 (by simp; omega) (fun r e => (HO2.out.lt r e).1)
              have HB6 := Lib.hid hb6
              have HBD6 := Lib.hid (HB2.out.below hb6 (by have := HS5.out; omega))
              have hS6 : w6.cell? (a4.add k) = some (.int .i64 z) := (hb6.cell (by rw [add_block]; have := HHI.out; omega)).trans ce
              have HS6 := Lib.hid hS6
              clear h2 h3 hb6 hsz
              refine hK.out _ _ (hS6) ?_
              clear hK K hHeld
              intro hHeld
              try simp only [Act.put, List.getElem_toArray, List.getElem_cons_zero, List.getElem_cons_succ, List.setIfInBounds_toArray, List.set_cons_zero, List.set_cons_succ]
              refine wpAnyH_take (i := 15) rfl (by kernel_rfl) (by kernel_rfl) (by kernel_rfl) (fun _ _ _ h => h) (Or.inl ⟨by rfl, by intro W hSW; (try dsimp only at hSW); go_simp; try (with_reducible rfl)⟩) hHeld ?_
              try simp only [Act.put, List.getElem_toArray, List.getElem_cons_zero, List.getElem_cons_succ, List.setIfInBounds_toArray, List.set_cons_zero, List.set_cons_succ]
              have cD6 : w6.cell? ⟨wg3.heap.size, 6, none⟩ = some v := HBD6.out.cell 6
              have fD6 : w6.frozen? ⟨wg3.heap.size, 6, none⟩ = false := HBD6.out.frozen 6
              refine wpAnyH_ready (rs := [16]) (by kernel_rfl) (by simp) ?_
              refine AllReadyH.cons rfl (fun K hK => ?_) AllReadyH.nil
              go_simp
              refine hK.out _ _ ((World.cell?_of_block (a := a4.add k) (Below.heap_setCell _ ⟨wg3.heap.size, 6, none⟩ _ _ (by rw [add_block]; show a4.block ≠ wg3.heap.size; have := HHI.out; omega))).trans HS6.out) ?_
              clear hK K hHeld
              intro hHeld
              try simp only [Act.put, List.getElem_toArray, List.getElem_cons_zero, List.getElem_cons_succ, List.setIfInBounds_toArray, List.set_cons_zero, List.set_cons_succ]
              refine wpAnyH_done (by kernel_rfl) ?_ _
              refine NoPanic.normal ?_
              have hN9 := HN2.out
              go_wp2_with fail
              clear cD cD6 fD6 hS6 ce cA cA2
              go_roundw
              case rel =>
                refine ⟨k + 1, _, by have := HLT.out; omega, by go_num, (HJ2.out.on HB6.out (by have := HDL.out; have := HS5.out; omega)).far ⟨wg3.heap.size, 6, none⟩ _ (by show w.heap.size + 2 < wg3.heap.size; exact HDL.out), HBD6.out.stored 6 _, ?_, Lib.hid (by have h1 := HB6.out.size; have h2 := HSZ.out; simp [World.setCell]; omega), Lib.hid fun gg h1 h2 h3 => (Below.heap_setCell _ ⟨wg3.heap.size, 6, none⟩ _ gg h3).trans ((HB6.out.block gg h2).trans (HKP2.out gg h1 h2 h3))⟩
                rw [HTK.out]
                exact ownk_keep H2.out fun gg hb _ => Below.heap_setCell _ ⟨wg3.heap.size, 6, none⟩ _ gg (by show gg ≠ wg3.heap.size; have := HS5.out; omega)
              case measure => have := HLT.out; simp [intOf]; omega
            · go_simp
              refine hK.out _ _ (HSA.out _) ?_
              clear hK K hHeld
              intro hHeld
              try simp only [Act.put, List.getElem_toArray, List.getElem_cons_zero, List.getElem_cons_succ, List.setIfInBounds_toArray, List.set_cons_zero, List.set_cons_succ]
              refine wpAnyH_ready (rs := [1]) (by kernel_rfl) (by simp) ?_
              refine AllReadyH.cons rfl (fun K hK => ?_) AllReadyH.nil
              go_simp
              refine hK.out _ _ (HSA.out _) ?_
              clear hK K hHeld
              intro hHeld
              try simp only [Act.put, List.getElem_toArray, List.getElem_cons_zero, List.getElem_cons_succ, List.setIfInBounds_toArray, List.set_cons_zero, List.set_cons_succ]
              refine wpAnyH_ready (rs := [14]) (by kernel_rfl) (by simp) ?_
              refine AllReadyH.cons rfl (fun K hK => ?_) AllReadyH.nil
              refine step_append_own rfl _ _ 23 rfl wg5.heap.size 85 iL (.agg #[.int .i64 0, .int .i64 0]) 2 16 Tryz.underlying23 hiL hzL0 hzL1 hzL2 rfl (by decide) _ k (flLn ((vs.map ln2).take k)) rfl (ownk_keep HO2.out fun gg hb hlt => Below.heap_alloc _ _ _ hlt) ⟨wr.heap.size, 0, none⟩ 1 [.int .i64 za, .int .i64 zb] rfl rfl (fun j u hu => by rw [add_plain, Nat.zero_add]; exact ((Blk.new wr.drew 85 #[.int .i64 za, .int .i64 zb]).cell j).trans (by simpa using hu)) (by simp [Value.oneCell']) (by unfold maxLen; have := HN2.out; have := HLT.out; omega) (by have := HN2.out; have := HLT.out; omega) (by have := HSZ.out; simp; omega) ?_
              intro v' w6 h2 h3
              obtain ⟨A', c', rfl⟩ := own_formW h2
              have H2 := Lib.hid h2
              have hsz : wg5.heap.size ≤ wr.heap.size := HSZ.out
              have hb6 : Below wg5.heap.size wr w6 := (((drew_below wr).mono hsz).trans ((alloc_ wr.drew _).mono hsz)).grown h3 (by simp; omega) (fun r e => (HO2.out.lt r e).1)
              have HB6 := Lib.hid hb6
              have HBD6 := Lib.hid (HB2.out.below hb6 (by have := HS5.out; omega))
              have hS6 : w6.cell? (a4.add k) = some (.int .i64 z) := (hb6.cell (by rw [add_block]; have := HHI.out; omega)).trans ce
              have HS6 := Lib.hid hS6
              clear h2 h3 hb6 hsz
              refine hK.out _ _ (hS6) ?_
              clear hK K hHeld
              intro hHeld
              try simp only [Act.put, List.getElem_toArray, List.getElem_cons_zero, List.getElem_cons_succ, List.setIfInBounds_toArray, List.set_cons_zero, List.set_cons_succ]
              refine wpAnyH_take (i := 15) rfl (by kernel_rfl) (by kernel_rfl) (by kernel_rfl) (fun _ _ _ h => h) (Or.inl ⟨by rfl, by intro W hSW; (try dsimp only at hSW); go_simp; try (with_reducible rfl)⟩) hHeld ?_
              try simp only [Act.put, List.getElem_toArray, List.getElem_cons_zero, List.getElem_cons_succ, List.setIfInBounds_toArray, List.set_cons_zero, List.set_cons_succ]
              have cD6 : w6.cell? ⟨wg3.heap.size, 6, none⟩ = some v := HBD6.out.cell 6
              have fD6 : w6.frozen? ⟨wg3.heap.size, 6, none⟩ = false := HBD6.out.frozen 6
              refine wpAnyH_ready (rs := [16]) (by kernel_rfl) (by simp) ?_
              refine AllReadyH.cons rfl (fun K hK => ?_) AllReadyH.nil
              go_simp
              refine hK.out _ _ ((World.cell?_of_block (a := a4.add k) (Below.heap_setCell _ ⟨wg3.heap.size, 6, none⟩ _ _ (by rw [add_block]; show a4.block ≠ wg3.heap.size; have := HHI.out; omega))).trans HS6.out) ?_
              clear hK K hHeld
              intro hHeld
              try simp only [Act.put, List.getElem_toArray, List.getElem_cons_zero, List.getElem_cons_succ, List.setIfInBounds_toArray, List.set_cons_zero, List.set_cons_succ]
              refine wpAnyH_done (by kernel_rfl) ?_ _
              refine NoPanic.normal ?_
              have hN9 := HN2.out
              go_wp2_with fail
              clear cD cD6 fD6 hS6 ce cA cA2
              go_roundw
              case rel =>
                refine ⟨k + 1, _, by have := HLT.out; omega, by go_num, (HJ2.out.on HB6.out (by have := HDL.out; have := HS5.out; omega)).far ⟨wg3.heap.size, 6, none⟩ _ (by show w.heap.size + 2 < wg3.heap.size; exact HDL.out), HBD6.out.stored 6 _, ?_, Lib.hid (by have h1 := HB6.out.size; have h2 := HSZ.out; simp [World.setCell]; omega), Lib.hid fun gg h1 h2 h3 => (Below.heap_setCell _ ⟨wg3.heap.size, 6, none⟩ _ gg h3).trans ((HB6.out.block gg h2).trans (HKP2.out gg h1 h2 h3))⟩
                rw [HTK.out]
                exact ownk_keep H2.out fun gg hb _ => Below.heap_setCell _ ⟨wg3.heap.size, 6, none⟩ _ gg (by show gg ≠ wg3.heap.size; have := HS5.out; omega)
              case measure => have := HLT.out; simp [intOf]; omega
          · obtain rfl : k = N2 := by omega
            have hvs : (vs.map ln2).take k = vs.map ln2 := List.take_of_length_le (by rw [List.length_map, HVL.out]; exact Nat.le_refl _)
            rw [hvs] at HO2
            obtain ⟨AL, cL, rfl⟩ := own_formW HO2.out
            clear hvs hlt hk
            cases b4 with
            | true =>
              obtain ⟨W9, hW9⟩ : ∃ W9, set9 ((((wr).setCell ⟨w.heap.size + 1, 0, none⟩ (.slice A n c)).setCell ⟨w.heap.size + 1, 1, none⟩ (.int .i64 (p4 : Int))).setCell ⟨w.heap.size + 1, 2, none⟩ (.bool true)) (w.heap.size + 1 + 1) (.int .i64 0) (.slice none 0 0) (.int .i64 0) (.bool false) (.int .i64 0) (.int .i64 0) (.slice none 0 0) (.slice none 0 0) (.slice none 0 0) = W9 := ⟨_, rfl⟩
              have HPZ := Lib.hid (HJ0.put HJ2.out (.slice A n c) (.int .i64 (p4 : Int)) (.bool true) (.int .i64 0) (.slice none 0 0) (.int .i64 0) (.bool false) (.int .i64 0) (.int .i64 0) (.slice none 0 0) (.slice none 0 0) (.slice none 0 0) W9 hW9)
              obtain ⟨y0, y1, y2⟩ := blk_ce3 HJ2.out.1.1
              obtain ⟨r0, r1, r2⟩ := blk_ce3 HJ2.out.1.2.1
              obtain ⟨q0, q1, q2⟩ := blk_fr3 HJ2.out.1.2.1
              obtain ⟨u0, u1, u2, u3, u4, u5, u6, u7, u8⟩ := blk9 HJ2.out.1.2.2
              obtain ⟨m0, m1, m2, m3, m4, m5, m6, m7, m8⟩ := blk9f HJ2.out.1.2.2
              go_wp2_with fail
              unfold set9 at hW9
              rw [hW9]
              clear y0 y1 y2 r0 r1 r2 q0 q1 q2 u0 u1 u2 u3 u4 u5 u6 u7 u8 m0 m1 m2 m3 m4 m5 m6 m7 m8
              obtain ⟨z0, z1, z2⟩ := blk_ce3 HPZ.out.1
              obtain ⟨m0, m1, m2, m3, m4, m5, m6, m7, m8⟩ := blk9 HPZ.out.2.1
              refine bodyPost_ret (v := .tuple #[.agg #[.slice A n c, .int .i64 (p4 : Int), .bool true], .agg #[.int .i64 0, .slice none 0 0, .int .i64 0, .bool false, .int .i64 0, .int .i64 0, .slice none 0 0, .slice none 0 0, .slice none 0 0], .int .i64 5]) (by simp [results, Tryz.results85, go_sem, z0, z1, z2, m0, m1, m2, m3, m4, m5, m6, m7, m8]) rfl ?_
              obtain ⟨e2, e3⟩ := HF3.out (by omega) (by have := HB4.out; simpa using this)
              rw [HF2.out (by omega), e2, e3, HR4.out]
              exact ⟨none, 0, none, 0, rfl, .nil, Wd.nil, (fun _ e => nomatch e), (fun _ e => nomatch e), HPZ.out.2.2.1⟩
            | false =>
              obtain ⟨d0, d1, d2, d3, d4, d5, d6, d7, d8⟩ := blk9 HB2.out
              have hDs : w.heap.size + 2 < wg3.heap.size := HDL.out
              obtain ⟨W9, hW9⟩ : ∃ W9, set9 ((((wr).setCell ⟨w.heap.size + 1, 0, none⟩ (.slice A n c)).setCell ⟨w.heap.size + 1, 1, none⟩ (.int .i64 (p4 : Int))).setCell ⟨w.heap.size + 1, 2, none⟩ (.bool false)) (w.heap.size + 1 + 1) (.int .i64 cl) (.slice AK q cK) (.int .i64 k0) (.bool ns) (.int .i64 k2) (.int .i64 k3) (.slice AL k cL) (.slice none 0 0) (.slice none 0 0) = W9 := ⟨_, rfl⟩
              have HPZ := Lib.hid (HJ0.put HJ2.out (.slice A n c) (.int .i64 (p4 : Int)) (.bool false) (.int .i64 cl) (.slice AK q cK) (.int .i64 k0) (.bool ns) (.int .i64 k2) (.int .i64 k3) (.slice AL k cL) (.slice none 0 0) (.slice none 0 0) W9 hW9)
              obtain ⟨y0, y1, y2⟩ := blk_ce3 HJ2.out.1.1
              obtain ⟨r0, r1, r2⟩ := blk_ce3 HJ2.out.1.2.1
              obtain ⟨q0, q1, q2⟩ := blk_fr3 HJ2.out.1.2.1
              obtain ⟨u0, u1, u2, u3, u4, u5, u6, u7, u8⟩ := blk9 HJ2.out.1.2.2
              obtain ⟨m0, m1, m2, m3, m4, m5, m6, m7, m8⟩ := blk9f HJ2.out.1.2.2
              go_wp2_with fail
              go_region
              go_wp2_with fail
              unfold set9 at hW9
              rw [hW9]
              clear y0 y1 y2 r0 r1 r2 q0 q1 q2 u0 u1 u2 u3 u4 u5 u6 u7 u8 m0 m1 m2 m3 m4 m5 m6 m7 m8
              obtain ⟨z0, z1, z2⟩ := blk_ce3 HPZ.out.1
              obtain ⟨m0, m1, m2, m3, m4, m5, m6, m7, m8⟩ := blk9 HPZ.out.2.1
              refine bodyPost_ret (v := .tuple #[.agg #[.slice A n c, .int .i64 (p4 : Int), .bool false], .agg #[.int .i64 cl, .slice AK q cK, .int .i64 k0, .bool ns, .int .i64 k2, .int .i64 k3, .slice AL k cL, .slice none 0 0, .slice none 0 0], .int .i64 0]) (by simp [results, Tryz.results85, go_sem, z0, z1, z2, m0, m1, m2, m3, m4, m5, m6, m7, m8]) rfl ?_
              obtain ⟨e2, e3⟩ := HF4'.out (by omega) (by have := HB4.out; simpa using this)
              rw [HF2.out (by omega), e2, e3, HR4.out]
              have hkp : ∀ gg, w.heap.size + 2 < gg → W9.heap[gg]? = wr.heap[gg]? := fun gg hg => HPZ.out.2.2.2 gg (by omega) (by omega)
              have o1 : W9.ownsRow (wg3.heap.size + 1) 3 1 (.slice AK q cK) q (ints ks) := ownk_keep (ownk_keep HOK5.out fun gg hb hlt => HKP2.out gg (by have := HDL.out; omega) hlt (by omega)) fun gg hb _ => hkp gg (by have := HDL.out; omega)
              have o2 : W9.ownsRow wg5.heap.size 85 2 (.slice AL k cL) k (flLn (vs.map ln2)) := ownk_keep HO2.out fun gg hb _ => hkp gg (by have := HDL.out; have := HS5.out; omega)
              refine ⟨AK, cK, AL, cL, ?_, ?_, ?_, (fun ad e => by subst e; have := (HOK5.out.lt ad.block rfl).1; have := HDL.out; omega), (fun ad e => by subst e; have := (HO2.out.lt ad.block rfl).1; have := HDL.out; have := HS5.out; omega), ?_⟩
              · dsimp only
                rw [HKL.out, List.length_map, HVL.out]
              · dsimp only
                rw [HKL.out]
                exact SlV.of_own o1
              · dsimp only
                rw [List.length_map, HVL.out]
                exact wd_own_at encLn_len (by rw [List.length_map, HVL.out]) o2
              · exact HPZ.out.2.2.1.drew
end Go.Proofs.YtbknmapkdjmcjaaGreatDoor.By
