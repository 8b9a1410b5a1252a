/-
  WALK: Turn.
-/
import Derived.Test.YtfgnlemoodfgoaaGb
import Derived.Test.YtfgnlemoodfgoaaGd
import Derived.RangeFuncBox
namespace Go.Proofs.Ytfgnlemoodfgoaa.By
open Go.RowKit
open Mem Gm Rf
attribute [local go_sem] Oper.semAt_some

set_option maxRecDepth 100000 in
set_option maxHeartbeats 4000000 in
set_option linter.unusedSimpArgs false in
theorem turn_any (A : Option Addr) (c B : Nat) (g : List (List Int)) (w : World) (hG : Gr w B (.slice A g.length c) g) (hB : B ≤ w.heap.size) (hs : Small g) :
    Calls Try.prog 11 #[.slice A g.length c] w fun e w' => ∃ A' c', e = .returned (.slice A' g.length c') ∧ Gr w' w'.heap.size (.slice A' g.length c') (turn g) ∧ Below w.heap.size w w' ∧ ∀ X, Keeps (fun k => w.heap.size ≤ k) w' X → Gr X w'.heap.size (.slice A' g.length c') (turn g) := by
  obtain ⟨i0, hi, hz0, hz1, hz2⟩ := info_parts infoI
  obtain ⟨N, hN⟩ : ∃ N, g.length = N := ⟨_, rfl⟩
  have hN1000 : N ≤ 1000 := hN ▸ hs.1
  have HE := Lib.hid hs.2
  have HN := Lib.hid hN
  have HG := Lib.hid hG
  have HACC := Lib.hid (acc_turn g)
  rw [hN] at HACC ⊢
  have hmk := make_rows N hN1000
  clear hN hG hs
  refine (callsIn_wide (n := 4)).1 ?_
  refine callsIn_of_wp_marks Try.func11 rfl trivial ?_ rfl
  simp only [Try.ntmps11, List.size_toArray, List.length_cons, List.length_nil, Nat.reduceAdd, Nat.reduceSub, Array.replicate_succ, Array.replicate_zero, List.push_toArray, List.append_toArray, List.nil_append, List.cons_append]
  gi_wp2_with (refine ⟨trivial, ?_⟩; gi_at_call 19; refine (callsIn_wide.2 (edges_any _ _ _ _)).mono ?_; rintro e w2 ⟨rfl, rfl⟩)
  obtain ⟨W0, hW0⟩ : ∃ W0, ((w.alloc (.cells (Array.replicate N (.slice none 0 0)) 23)).alloc (.cells #[.slice (some ⟨w.heap.size, 0, none⟩) N N] 22)).alloc (.cells #[.slice A N c] 22) = W0 := ⟨_, rfl⟩
  have hsz0 : W0.heap.size = w.heap.size + 3 := by rw [← hW0]; simp
  have hbx : W0.cell? ⟨w.heap.size + 2, 0, none⟩ = some (.slice A N c) := by rw [← hW0]; have := (Blk.new ((w.alloc (.cells (Array.replicate N (.slice none 0 0)) 23)).alloc (.cells #[.slice (some ⟨w.heap.size, 0, none⟩) N N] 22)) 22 #[.slice A N c]).cell 0; simpa using this
  have hvb0 : W0.cell? ⟨w.heap.size + 1, 0, none⟩ = some (.slice (some ⟨w.heap.size, 0, none⟩) N N) := by rw [← hW0]; have := ((Blk.new (w.alloc (.cells (Array.replicate N (.slice none 0 0)) 23)) 22 #[.slice (some ⟨w.heap.size, 0, none⟩) N N]).alloc (.cells #[.slice A N c] 22)).cell 0; simpa using this
  have hrb0 : Blk W0 w.heap.size 23 (Array.replicate N (.slice none 0 0)) := by rw [← hW0]; exact ((Blk.new w _ _).alloc _).alloc _
  have hb0 : Below w.heap.size w W0 := by rw [← hW0]; exact (((Below.refl _ w).alloc (Nat.le_refl _) _).alloc (by simp) _).alloc (by simp; omega) _
  have HT2 := Lib.hid (show Tells Fence.wide 3 Try.prog 24 #[.pointer (some ⟨w.heap.size + 2, 0, none⟩)] (fun x : Nat × Nat => #[Value.int .i64 (x.1 : Int), Value.int .i64 (x.2 : Int)]) (fun _ k => k < B ∨ k = w.heap.size + 2) (fun _ _ => True) (edgesL g) W0 from
    edges_tells 3 (by decide) (w.heap.size + 2) B A c g W0 (by rw [HN.out]; exact hbx) (HG.out.below (hb0.mono hB)) (by omega))
  rw [hW0]
  have HW0 := Lib.hid hW0
  clear hW0 hmk hbx
  refine wpIn_range rfl (by decide) (gf := 24) (lb := #[.pointer (some ⟨w.heap.size + 2, 0, none⟩)]) rfl trivial (enters_of Try.func24 (by kernel_rfl) rfl) HT2.out (Below.refl _ _) (fun _ => rfl)
    (fun k => ¬ Two W0.heap.size k) (fun k h h' => h' h) (fun _ _ => trivial) (fun _ _ => trivial) (by omega)
    (fun pre W => (W.cell? ⟨w.heap.size + 1, 0, none⟩ = some (.slice (some ⟨w.heap.size, 0, none⟩) N N) ∧ OwnG W w.heap.size (W0.heap.size + 2) 23 3 (acc N (pre.map Prod.swap))) ∧ Below w.heap.size w W ∧ W0.heap.size ≤ W.heap.size)
    (fun _ _ _ => False)
    (fun pre X Y ⟨⟨h1, h2⟩, h3, h4⟩ hk => ⟨⟨hk.cell (by unfold Two; simp; omega) h1, h2.keep fun k hk1 hk2 => hk.block k (by unfold Two; omega) hk2⟩, h3.trans (hk.below (by omega) (fun k hk1 => by unfold Two; omega)), Nat.le_trans h4 hk.size⟩)
    (fun _ _ _ _ h _ _ => h)
    ⟨⟨hvb0, by simp only [List.map_nil]; rw [acc_nil]; exact OwnG.start _ _ _ hrb0⟩, hb0, Nat.le_refl _⟩
    (fun x => { tmps := #[.slice A N c, undef, .slice none 0 0, .pointer (some ⟨w.heap.size + 1, 0, none⟩), .int .i64 (x.1 : Int), .int .i64 (x.2 : Int), .slice A N c, .int .i64 (N : Int), .slice (some ⟨w.heap.size, 0, none⟩) N N, .slice A N c, .func (.func 24) #[] #[.pointer (some ⟨w.heap.size + 2, 0, none⟩)], .int .i64 (x.1 : Int), .int .i64 (x.2 : Int), undef, undef, undef, undef, undef, undef, undef, undef, undef, undef, undef, undef], defers := [] }) ?assign ?body ?done ?stop
  case assign =>
    intro l x W K hK
    gi_wp2
    exact hK
  case body =>
    rintro l pre x W ⟨⟨hvb, hown⟩, hbel, hsz⟩ hpre hsz2
    have hxm := mem_edges (hpre.subset (List.mem_append.2 (.inr (List.mem_singleton.2 rfl))))
    rw [HN.out] at hxm
    have hplen : pre.length < 1000000 := by
      have h1 := hpre.length_le
      have h2 := HE.out
      simp at h1; omega
    obtain ⟨rv, hrb, hfr, hone, hrow, ⟨RA, RC, hrvf⟩, hput⟩ := hown.at_ (by omega) (a := x.2) (by rw [acc_length]; exact hxm.2.1)
    have hrl : (rowOf (acc N (pre.map Prod.swap)) x.2).length < 1000000 := Nat.lt_of_le_of_lt (acc_row_len _) (by simpa using hplen)
    have HLen1 : (rowOf (acc N (pre.map Prod.swap)) x.2).length + 1 ≤ maxLen := by unfold maxLen; omega
    have HLen2 : ((rowOf (acc N (pre.map Prod.swap)) x.2).length + 1) * 8 ≤ 140737488355328 := by omega
    have hownA := own_keep (w' := W.drew.alloc (.cells #[.int .i64 (x.1 : Int)] 3)) hrow (fun k _ hk _ => Below.heap_alloc _ _ _ hk)
    have hnewA : (W.drew.alloc (.cells #[.int .i64 (x.1 : Int)] 3)).cell? ⟨W.heap.size, 0, none⟩ = some (.int .i64 (x.1 : Int)) := by
      have := (Blk.new W.drew 3 #[.int .i64 (x.1 : Int)]).cell 0
      simpa using this
    have hvbA : (W.drew.alloc (.cells #[.int .i64 (x.1 : Int)] 3)).cell? ⟨w.heap.size + 1, 0, none⟩ = some (.slice (some ⟨w.heap.size, 0, none⟩) N N) := by
      rw [World.cell?_alloc_lt _ _ _ (by show w.heap.size + 1 < W.heap.size; omega)]; exact hvb
    have hrbA : (W.drew.alloc (.cells #[.int .i64 (x.1 : Int)] 3)).cell? ⟨w.heap.size, x.2, none⟩ = some rv := by
      rw [World.cell?_alloc_lt _ _ _ (by show w.heap.size < W.heap.size; omega)]; exact hrb
    have hrbA2 : (W.alloc (.cells #[.int .i64 (x.1 : Int)] 3)).cell? ⟨w.heap.size, x.2, none⟩ = some rv := hrbA
    have hfrA : (W.drew.alloc (.cells #[.int .i64 (x.1 : Int)] 3)).frozen? ⟨w.heap.size, x.2, none⟩ = false := by
      rw [World.frozen?_alloc_past _ _ _ (by show w.heap.size < W.heap.size; omega)]; exact hfr
    have Hvb : Hid (some (w.heap.size + 1) ≠ rv.ownBlock) := fun e => by have := (hrow.lt _ e.symm).1; omega
    have Hrb : Hid (some w.heap.size ≠ rv.ownBlock) := fun e => by have := (hrow.lt _ e.symm).1; omega
    have HEnd := Lib.hid (show ∀ (g' cap' : Nat) (w' : World), w'.ownsRow (W0.heap.size + 2) 3 1 (.slice (some ⟨g', 0, none⟩) ((rowOf (acc N (pre.map Prod.swap)) x.2).length + 1) cap') ((rowOf (acc N (pre.map Prod.swap)) x.2).length + 1) (ints (rowOf (acc N (pre.map Prod.swap)) x.2) ++ [.int .i64 (x.1 : Int)]) →
        (W.drew.alloc (.cells #[.int .i64 (x.1 : Int)] 3)).grownBy w' rv.ownBlock →
        ((Value.slice (some ⟨g', 0, none⟩) ((rowOf (acc N (pre.map Prod.swap)) x.2).length + 1) cap').ownBlock = rv.ownBlock ∨ (Value.slice (some ⟨g', 0, none⟩) ((rowOf (acc N (pre.map Prod.swap)) x.2).length + 1) cap').ownBlock = some (W.drew.alloc (.cells #[.int .i64 (x.1 : Int)] 3)).heap.size) →
        Keeps (fun k => (k < B ∨ k = w.heap.size + 2) ∨ Two W0.heap.size k) W (w'.setCell ⟨w.heap.size, x.2, none⟩ (.slice (some ⟨g', 0, none⟩) ((rowOf (acc N (pre.map Prod.swap)) x.2).length + 1) cap')) ∧
        ((w'.setCell ⟨w.heap.size, x.2, none⟩ (.slice (some ⟨g', 0, none⟩) ((rowOf (acc N (pre.map Prod.swap)) x.2).length + 1) cap')).cell? ⟨w.heap.size + 1, 0, none⟩ = some (.slice (some ⟨w.heap.size, 0, none⟩) N N) ∧
          OwnG (w'.setCell ⟨w.heap.size, x.2, none⟩ (.slice (some ⟨g', 0, none⟩) ((rowOf (acc N (pre.map Prod.swap)) x.2).length + 1) cap')) w.heap.size (W0.heap.size + 2) 23 3 (acc N ((pre ++ [x]).map Prod.swap))) ∧
        Below w.heap.size w (w'.setCell ⟨w.heap.size, x.2, none⟩ (.slice (some ⟨g', 0, none⟩) ((rowOf (acc N (pre.map Prod.swap)) x.2).length + 1) cap')) ∧ W0.heap.size ≤ (w'.setCell ⟨w.heap.size, x.2, none⟩ (.slice (some ⟨g', 0, none⟩) ((rowOf (acc N (pre.map Prod.swap)) x.2).length + 1) cap')).heap.size from by
      intro g' cap' w' h2 h3 h4
      have hr2 : ∀ r, rv.ownBlock = some r → W0.heap.size + 2 ≤ r := fun r e => (hrow.lt r e).1
      have hK1 : Keeps (fun k => (k < B ∨ k = w.heap.size + 2) ∨ Two W0.heap.size k) W w' := ((((Keeps.refl _ W).drew).alloc _).grown h3 fun r e h => by
        have := hr2 r e; unfold Two at h; omega)
      refine ⟨hK1.setCell (by unfold Two; simp; omega) _, ⟨?_, ?_⟩, ?_, ?_⟩
      · rw [World.cell?_setCell_other _ _ _ _ (by simp)]
        exact h3.cell hvbA Hvb.out
      · have h5 := hput (.slice (some ⟨g', 0, none⟩) ((rowOf (acc N (pre.map Prod.swap)) x.2).length + 1) cap') (rowOf (acc N (pre.map Prod.swap)) x.2 ++ [(x.1 : Int)]) w' rfl (by simpa [ints] using h2)
          (by
            rcases h4 with h4 | h4
            · exact .inr (.inl h4)
            · exact .inr (.inr ⟨_, h4, by simp⟩))
          (fun k hk hlt hne => (h3.block k (by simp; omega) (fun e => hne e.symm)).trans (Below.heap_alloc _ _ _ hlt))
        rw [← acc_snoc (b := x.1) (pre.map Prod.swap) hxm.2.1] at h5
        rw [List.map_append]; exact h5
      · refine (hbel.trans ?_).setCell (p := ⟨w.heap.size, x.2, none⟩) (Nat.le_refl _) _
        exact (((Below.refl w.heap.size W).drew.alloc (by show w.heap.size ≤ W.heap.size; omega) _).grown h3 (by simp; omega) fun r e => by have := hr2 r e; omega)
      · have := h3.size
        simp [World.setCell] at this ⊢; omega)
    have hHeld : W.drew.cell? ⟨w.heap.size + 1, 0, none⟩ = some (.slice (some ⟨w.heap.size, 0, none⟩) N N) := hvb
    have hrbD : W.drew.cell? ⟨w.heap.size, x.2, none⟩ = some rv := hrb
    have hx1 : ((x.2 : Nat) : Int) < (N : Int) := by have := hxm.2.1; omega
    have hx0 : (0 : Int) ≤ ((x.2 : Nat) : Int) := by omega
    have hx2 : x.2 < N := hxm.2.1
    clear hput hown hone hvb hrb hfr hbel hpre hxm hplen hrl
    subst hrvf
    gi_wp2
    refine wpIn_region_round (S := fun W' => W'.cell? ⟨w.heap.size + 1, 0, none⟩ = some (.slice (some ⟨w.heap.size, 0, none⟩) N N)) (by kernel_rfl) (by kernel_rfl) ?_
    refine wpAnyH_take (i := 0) rfl (by kernel_rfl) (by kernel_rfl) (by kernel_rfl) (fun _ _ _ h => h) (Or.inl ⟨by rfl, by intro W hSW; (try dsimp only at hSW); go_simp; try (with_reducible rfl)⟩) hHeld ?_
    try simp only [Act.put, List.getElem_toArray, List.getElem_cons_zero, List.getElem_cons_succ, List.setIfInBounds_toArray, List.set_cons_zero, List.set_cons_succ]
    refine wpAnyH_take (i := 1) rfl (by kernel_rfl) (by kernel_rfl) (by kernel_rfl) (fun _ _ _ h => h) (Or.inl ⟨by rfl, by intro W hSW; (try dsimp only at hSW); go_simp; try (with_reducible rfl)⟩) hHeld ?_
    try simp only [Act.put, List.getElem_toArray, List.getElem_cons_zero, List.getElem_cons_succ, List.setIfInBounds_toArray, List.set_cons_zero, List.set_cons_succ]
    refine wpAnyH_take (i := 2) rfl (by kernel_rfl) (by kernel_rfl) (by kernel_rfl) (fun _ _ _ h => h) (Or.inl ⟨by rfl, by intro W hSW; (try dsimp only at hSW); go_simp; try (with_reducible rfl)⟩) hHeld ?_
    try simp only [Act.put, List.getElem_toArray, List.getElem_cons_zero, List.getElem_cons_succ, List.setIfInBounds_toArray, List.set_cons_zero, List.set_cons_succ]
    refine wpAnyH_take (i := 3) rfl (by kernel_rfl) (by kernel_rfl) (by kernel_rfl) (fun _ _ _ h => h) (Or.inl ⟨by rfl, by intro W hSW; (try dsimp only at hSW); go_simp; try (with_reducible rfl)⟩) hHeld ?_
    try simp only [Act.put, List.getElem_toArray, List.getElem_cons_zero, List.getElem_cons_succ, List.setIfInBounds_toArray, List.set_cons_zero, List.set_cons_succ]
    refine wpAnyH_take (i := 4) rfl (by kernel_rfl) (by kernel_rfl) (by kernel_rfl) (fun _ _ _ h => h) (Or.inl ⟨by rfl, by intro W hSW; (try dsimp only at hSW); go_simp; try (with_reducible rfl)⟩) hHeld ?_
    try simp only [Act.put, List.getElem_toArray, List.getElem_cons_zero, List.getElem_cons_succ, List.setIfInBounds_toArray, List.set_cons_zero, List.set_cons_succ]
    refine wpAnyH_take (i := 6) rfl (by kernel_rfl) (by kernel_rfl) (by kernel_rfl) (fun _ _ _ h => h) (Or.inl ⟨by rfl, by intro W hSW; (try dsimp only at hSW); go_simp; try (with_reducible rfl)⟩) hHeld ?_
    try simp only [Act.put, List.getElem_toArray, List.getElem_cons_zero, List.getElem_cons_succ, List.setIfInBounds_toArray, List.set_cons_zero, List.set_cons_succ]
    refine wpAnyH_ready (rs := [5, 7]) (by kernel_rfl) (by simp) ?_
    refine AllReadyH.cons rfl (fun K hK => ?_) (AllReadyH.cons rfl (fun K hK => ?_) AllReadyH.nil)
    · go_simp
      refine hK.out _ _ (hHeld) ?_
      clear hK K hHeld
      intro hHeld
      try simp only [Act.put, List.getElem_toArray, List.getElem_cons_zero, List.getElem_cons_succ, List.setIfInBounds_toArray, List.set_cons_zero, List.set_cons_succ]
      refine wpAnyH_ready (rs := [7]) (by kernel_rfl) (by simp) ?_
      refine AllReadyH.cons rfl (fun K hK => ?_) AllReadyH.nil
      go_simp
      refine hK.out _ _ (hvbA) ?_
      clear hK K hHeld
      intro hHeld
      try simp only [Act.put, List.getElem_toArray, List.getElem_cons_zero, List.getElem_cons_succ, List.setIfInBounds_toArray, List.set_cons_zero, List.set_cons_succ]
      refine wpAnyH_ready (rs := [8]) (by kernel_rfl) (by simp) ?_
      refine AllReadyH.cons rfl (fun K hK => ?_) AllReadyH.nil
      refine step_append_where rfl (.tmp 18) (.tmp 20) 23 rfl (W0.heap.size + 2) 3 i0 (.int .i64 0) 8 Try.underlying23 hi hz0 hz1 hz2 rfl _ _ _ rfl hownA ⟨W.heap.size, 0, none⟩ 1 (.int .i64 (x.1 : Int)) rfl hnewA rfl HLen1 HLen2 (by simp; omega) ?_
      intro v' w' h2 h3 h4
      obtain ⟨g', cap', hv'⟩ := ownsRow_succ h2
      subst hv'
      have hvb' : w'.cell? ⟨w.heap.size + 1, 0, none⟩ = some (.slice (some ⟨w.heap.size, 0, none⟩) N N) := h3.cell hvbA (Hvb.out)
      have hrb' := h3.cell hrbA (Hrb.out)
      have hfr' : w'.frozen? ⟨w.heap.size, x.2, none⟩ = false := (World.frozen?_of_block (h3.block w.heap.size (World.block_lt_of_cell? _ _ hrbA) (Hrb.out))).trans hfrA
      refine hK.out _ _ (hvb') ?_
      clear hK K hHeld
      intro hHeld
      try simp only [Act.put, List.getElem_toArray, List.getElem_cons_zero, List.getElem_cons_succ, List.setIfInBounds_toArray, List.set_cons_zero, List.set_cons_succ]
      refine wpAnyH_ready (rs := [9]) (by kernel_rfl) (by simp) ?_
      refine AllReadyH.cons rfl (fun K hK => ?_) AllReadyH.nil
      go_simp
      refine hK.out _ _ (hHeld) ?_
      clear hK K hHeld
      intro hHeld
      try simp only [Act.put, List.getElem_toArray, List.getElem_cons_zero, List.getElem_cons_succ, List.setIfInBounds_toArray, List.set_cons_zero, List.set_cons_succ]
      refine wpAnyH_ready (rs := [10]) (by kernel_rfl) (by simp) ?_
      refine AllReadyH.cons rfl (fun K hK => ?_) AllReadyH.nil
      go_simp
      refine hK.out _ _ (by rw [World.cell?_setCell_other _ _ _ _ (by simp)]; exact hvb') ?_
      clear hK K hHeld
      intro hHeld
      try simp only [Act.put, List.getElem_toArray, List.getElem_cons_zero, List.getElem_cons_succ, List.setIfInBounds_toArray, List.set_cons_zero, List.set_cons_succ]
      refine wpAnyH_done (by kernel_rfl) ?_ _
      refine (show Only _ .normal _ _ from ?_)
      exact HEnd.out _ _ _ h2 h3 h4
    · go_simp
      refine hK.out _ _ (hvbA) ?_
      clear hK K hHeld
      intro hHeld
      try simp only [Act.put, List.getElem_toArray, List.getElem_cons_zero, List.getElem_cons_succ, List.setIfInBounds_toArray, List.set_cons_zero, List.set_cons_succ]
      refine wpAnyH_ready (rs := [5]) (by kernel_rfl) (by simp) ?_
      refine AllReadyH.cons rfl (fun K hK => ?_) AllReadyH.nil
      go_simp
      refine hK.out _ _ (hvbA) ?_
      clear hK K hHeld
      intro hHeld
      try simp only [Act.put, List.getElem_toArray, List.getElem_cons_zero, List.getElem_cons_succ, List.setIfInBounds_toArray, List.set_cons_zero, List.set_cons_succ]
      refine wpAnyH_ready (rs := [8]) (by kernel_rfl) (by simp) ?_
      refine AllReadyH.cons rfl (fun K hK => ?_) AllReadyH.nil
      refine step_append_where rfl (.tmp 18) (.tmp 20) 23 rfl (W0.heap.size + 2) 3 i0 (.int .i64 0) 8 Try.underlying23 hi hz0 hz1 hz2 rfl _ _ _ rfl hownA ⟨W.heap.size, 0, none⟩ 1 (.int .i64 (x.1 : Int)) rfl hnewA rfl HLen1 HLen2 (by simp; omega) ?_
      intro v' w' h2 h3 h4
      obtain ⟨g', cap', hv'⟩ := ownsRow_succ h2
      subst hv'
      have hvb' : w'.cell? ⟨w.heap.size + 1, 0, none⟩ = some (.slice (some ⟨w.heap.size, 0, none⟩) N N) := h3.cell hvbA (Hvb.out)
      have hrb' := h3.cell hrbA (Hrb.out)
      have hfr' : w'.frozen? ⟨w.heap.size, x.2, none⟩ = false := (World.frozen?_of_block (h3.block w.heap.size (World.block_lt_of_cell? _ _ hrbA) (Hrb.out))).trans hfrA
      refine hK.out _ _ (hvb') ?_
      clear hK K hHeld
      intro hHeld
      try simp only [Act.put, List.getElem_toArray, List.getElem_cons_zero, List.getElem_cons_succ, List.setIfInBounds_toArray, List.set_cons_zero, List.set_cons_succ]
      refine wpAnyH_ready (rs := [9]) (by kernel_rfl) (by simp) ?_
      refine AllReadyH.cons rfl (fun K hK => ?_) AllReadyH.nil
      go_simp
      refine hK.out _ _ (hHeld) ?_
      clear hK K hHeld
      intro hHeld
      try simp only [Act.put, List.getElem_toArray, List.getElem_cons_zero, List.getElem_cons_succ, List.setIfInBounds_toArray, List.set_cons_zero, List.set_cons_succ]
      refine wpAnyH_ready (rs := [10]) (by kernel_rfl) (by simp) ?_
      refine AllReadyH.cons rfl (fun K hK => ?_) AllReadyH.nil
      go_simp
      refine hK.out _ _ (by rw [World.cell?_setCell_other _ _ _ _ (by simp)]; exact hvb') ?_
      clear hK K hHeld
      intro hHeld
      try simp only [Act.put, List.getElem_toArray, List.getElem_cons_zero, List.getElem_cons_succ, List.setIfInBounds_toArray, List.set_cons_zero, List.set_cons_succ]
      refine wpAnyH_done (by kernel_rfl) ?_ _
      refine (show Only _ .normal _ _ from ?_)
      exact HEnd.out _ _ _ h2 h3 h4
  case done =>
    rintro W ⟨⟨hvb, hown⟩, hbel, hsz⟩ hD
    have hlen : ∀ i, (rowOf (acc N ((edgesL g).map Prod.swap)) i).length ≤ 1000000 := fun i => Nat.le_trans (acc_row_len _) (by have := HE.out; simpa using this)
    have HC := Lib.hid (tidy_any W w.heap.size (W0.heap.size + 2) (acc N ((edgesL g).map Prod.swap)) hown (by omega) (by rw [acc_length]; exact hN1000) hlen)
    rw [acc_length, HACC.out] at HC
    have hlt := (Array.getElem?_eq_some_iff.1 hD).1
    clear hlen
    gi_wp2_with (refine ⟨trivial, ?_⟩; gi_at_call 20; refine (callsIn_wide.2 HC.out).mono ?_; rintro e w2 ⟨rfl, hg2, hk2⟩)
    have hD2 : w2.heap[W0.heap.size]? = some (.deferred (some [])) := (hk2.block _ (by omega) hlt).trans hD
    rw [hsz0] at hD2
    have hg3 : OwnG (w2.putObj (w.heap.size + 3) (.deferred none)) w.heap.size (W0.heap.size + 2) 23 3 (turn g) := hg2.keep fun k hk _ => World.putObj_heap_other (by omega)
    have hgr : ∀ X, Keeps (fun k => w.heap.size ≤ k) (w2.putObj (w.heap.size + 3) (.deferred none)) X → Gr X (w2.putObj (w.heap.size + 3) (.deferred none)).heap.size (.slice (some ⟨w.heap.size, 0, none⟩) N N) (turn g) := fun X hX => by
      have := hg3.gr_kept (w' := X) N (by rw [turn_length, HN.out]; exact Nat.le_refl _) (by unfold maxLen; omega) fun k hk hlt => hX.block k (by omega) hlt
      rwa [turn_length, HN.out] at this
    refine ⟨by simp, .inl ⟨_, _, rfl, run_takeDeferred hD2, ?_⟩⟩
    refine ⟨_, results_tmp rfl _ _ _, _, _, rfl, hgr _ (Keeps.refl _ _), ?_, hgr⟩
    have h1 : Below w.heap.size w w2 := hbel.trans (hk2.below (by omega) fun k hk => by omega)
    exact h1.trans ⟨rfl, rfl, rfl, by simp, fun k hk => World.putObj_heap_other (by omega)⟩
  case stop =>
    rintro ch pre W _ h _
    exact h.elim
end Go.Proofs.Ytfgnlemoodfgoaa.By
