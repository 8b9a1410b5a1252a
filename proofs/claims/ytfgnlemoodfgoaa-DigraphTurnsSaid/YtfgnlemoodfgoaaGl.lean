/-
  WALK: Way.
-/
import Derived.Test.YtfgnlemoodfgoaaGk
namespace Go.Proofs.Ytfgnlemoodfgoaa.By
open Go.RowKit
open Mem Gm Rf
attribute [local go_sem] Oper.semAt_some

/-- What Way answers. -/
def WayAns (g : List (List Int)) (a b : Int) (w : World) (e : Ending) (w' : World) : Prop :=
  ∃ A c, e = .returned (.slice A (way g a b).length c) ∧ SlV w' w'.heap.size (.slice A (way g a b).length c) (nats (way g a b)) ∧ Below w.heap.size w w'

set_option maxRecDepth 100000 in
set_option maxHeartbeats 4000000 in
theorem way_any (A : Option Addr) (c B : Nat) (g : List (List Int)) (a b : Int) (w : World) (hG : Gr w B (.slice A g.length c) g) (hB : B ≤ w.heap.size) (hs : g.length ≤ 500) (hsm : Small g) :
    Calls Try.prog 16 #[.slice A g.length c, .int .i64 a, .int .i64 b] w (WayAns g a b w) := by
  obtain ⟨N, hN⟩ : ∃ N, g.length = N := ⟨_, rfl⟩
  have HFU := Lib.hid (fuel_clean g hs)
  have HCL := Lib.hid (clean_length g)
  have hCC := Lib.hid (fun (W : World) (h : Gr W W.heap.size (.slice A g.length c) g) => clean_any A c W.heap.size g W h (Nat.le_refl _) hsm)
  have HN := Lib.hid hN
  have HG := Lib.hid hG
  have hmk := make_ints N (by omega)
  rw [hN] at hCC hs HCL
  rw [hN]
  clear hN hG hsm
  refine (callsIn_wide (n := 4)).1 ?_
  refine callsIn_of_wp_marks Try.func16 rfl trivial ?_ rfl
  simp only [Try.ntmps16, List.size_toArray, List.length_cons, List.length_nil, Nat.reduceAdd, Nat.reduceSub, Array.replicate_succ, Array.replicate_zero, List.push_toArray, List.append_toArray, List.nil_append, List.cons_append]
  obtain ⟨W1, hW1⟩ : ∃ W1, (((w.alloc (.cells #[.int .i64 b] 3)).alloc (.cells #[.slice none 0 0] 23)).alloc (.cells (Array.replicate N (.int .i64 0)) 3)).alloc (.cells #[.slice (some ⟨w.heap.size + 1 + 1, 0, none⟩) N N] 23) = W1 := ⟨_, rfl⟩
  have hsz1 : W1.heap.size = w.heap.size + 4 := by rw [← hW1]; simp
  have hb1 : Below w.heap.size w W1 := by rw [← hW1]; exact ((((Below.refl _ w).alloc (Nat.le_refl _) _).alloc (by simp) _).alloc (by simp; omega) _).alloc (by simp; omega) _
  have htb1 : Blk W1 w.heap.size 3 #[.int .i64 b] := by rw [← hW1]; exact (((Blk.new w _ _).alloc _).alloc _).alloc _
  have hrs1 : Blk W1 (w.heap.size + 1) 23 #[.slice none 0 0] := by
    rw [← hW1]; have := ((Blk.new (w.alloc (.cells #[.int .i64 b] 3)) 23 #[.slice none 0 0]).alloc (.cells (Array.replicate N (.int .i64 0)) 3)).alloc (.cells #[.slice (some ⟨w.heap.size + 1 + 1, 0, none⟩) N N] 23); rwa [World.size_alloc] at this
  have hab1 : Blk W1 (w.heap.size + 2) 3 (Array.replicate N (.int .i64 0)) := by
    rw [← hW1]; have := (Blk.new ((w.alloc (.cells #[.int .i64 b] 3)).alloc (.cells #[.slice none 0 0] 23)) 3 (Array.replicate N (.int .i64 0))).alloc (.cells #[.slice (some ⟨w.heap.size + 1 + 1, 0, none⟩) N N] 23); rwa [World.size_alloc, World.size_alloc] at this
  have hvb1 : Blk W1 (w.heap.size + 3) 23 #[.slice (some ⟨w.heap.size + 2, 0, none⟩) N N] := by
    rw [← hW1]; have := Blk.new (((w.alloc (.cells #[.int .i64 b] 3)).alloc (.cells #[.slice none 0 0] 23)).alloc (.cells (Array.replicate N (.int .i64 0)) 3)) 23 #[.slice (some ⟨w.heap.size + 1 + 1, 0, none⟩) N N]; rwa [World.size_alloc, World.size_alloc, World.size_alloc] at this
  have hC1 := Lib.hid (hCC.out W1 (by have := HG.out; rw [HN.out] at this; exact (this.below (hb1.mono hB)).more (by omega)))
  have HW1 := Lib.hid hW1
  have H1 := Lib.hid (And.intro hb1 (And.intro htb1 (And.intro hrs1 (And.intro hab1 hvb1))))
  clear hb1 htb1 hrs1 hab1 hvb1
  gi_wp2_with (first
    | (refine ⟨trivial, ?_⟩; gi_at_call 9; refine (callsIn_wide.2 hC1.out).mono ?_; rintro e W2 ⟨A2, c2, rfl, hg2, hb2, hk2⟩; have HG2 := Lib.hid hg2; have HB2 := Lib.hid hb2; have HK2 := Lib.hid hk2; clear hg2 hb2 hk2)
    | (refine ⟨trivial, ?_⟩; gi_at_call 21; refine (callsIn_wide.2 (walk_any _ _ _ _ _ _ _)).mono ?_; rintro e w2 ⟨rfl, rfl⟩))
  obtain ⟨W3, hW3⟩ : ∃ W3, W2.alloc (.cells #[.int .i64 a] 3) = W3 := ⟨_, rfl⟩
  have hsz3 : W3.heap.size = W2.heap.size + 1 := by rw [← hW3]; simp
  obtain ⟨W4, hW4⟩ : ∃ W4, W3.alloc (.cells #[.slice A2 N c2] 22) = W4 := ⟨_, rfl⟩
  have hsz4 : W4.heap.size = W2.heap.size + 2 := by rw [← hW4]; simp [hsz3]
  obtain ⟨W0, hW0⟩ : ∃ W0, W4.alloc (.cells #[.slice (some ⟨W2.heap.size, 0, none⟩) 1 1] 23) = W0 := ⟨_, rfl⟩
  have hsz0 : W0.heap.size = W2.heap.size + 3 := by rw [← hW0]; simp [hsz4]
  have hsz2 : W1.heap.size ≤ W2.heap.size := HB2.out.size
  obtain ⟨hb1, htb1, hrs1, hab1, hvb1⟩ := H1.out
  have up : ∀ {k : Nat} {t : TypeId} {cs : Array Value}, Blk W1 k t cs → Blk W0 k t cs := fun h => by
    rw [← hW0, ← hW4, ← hW3]; exact (((h.below HB2.out h.lt).alloc _).alloc _).alloc _
  have htb0 := up htb1
  have hrs0 := up hrs1
  have hab0 := up hab1
  have hvb0 := up hvb1
  have hfb0 : Blk W0 W2.heap.size 3 #[.int .i64 a] := by rw [← hW0, ← hW4, ← hW3]; exact ((Blk.new W2 _ _).alloc _).alloc _
  have hbx1 : W0.cell? ⟨W2.heap.size + 1, 0, none⟩ = some (.slice A2 N c2) := by
    rw [← hW0, ← hW4]; have := ((Blk.new W3 22 #[.slice A2 N c2]).alloc (.cells #[.slice (some ⟨W2.heap.size, 0, none⟩) 1 1] 23)).cell 0; rw [hsz3] at this; simpa using this
  have hbx2 : W0.cell? ⟨W2.heap.size + 2, 0, none⟩ = some (.slice (some ⟨W2.heap.size, 0, none⟩) 1 1) := by
    rw [← hW0]; have := (Blk.new W4 23 #[.slice (some ⟨W2.heap.size, 0, none⟩) 1 1]).cell 0; rw [hsz4] at this; simpa using this
  have hk20 : Keeps (fun k => W1.heap.size ≤ k) W2 W0 := by rw [← hW0, ← hW4, ← hW3]; exact (((Keeps.refl _ W2).alloc _).alloc _).alloc _
  have hb0 : Below w.heap.size w W0 := by
    rw [← hW0, ← hW4, ← hW3]
    exact (((hb1.trans (HB2.out.mono (by omega))).alloc (by omega) _).alloc (by simp; omega) _).alloc (by simp; omega) _
  have HT2 := Lib.hid (show Tells Fence.wide 3 Try.prog 28 #[.pointer (some ⟨W2.heap.size + 1, 0, none⟩), .pointer (some ⟨W2.heap.size + 2, 0, none⟩)] (fun x : Nat × List Nat => #[Value.int .i64 (x.1 : Int), Value.int .i64 (ahd x.2)])
      (fun L k => ((W1.heap.size ≤ k ∧ k < W0.heap.size) ∨ k = W2.heap.size + 1 ∨ k = W2.heap.size + 2) ∨ L ≤ k) (fun L k => k < L) (told (clean g) [a]) W0 from
    walk_tells 3 (by decide) (W2.heap.size + 1) (W2.heap.size + 2) W0.heap.size (fun k => W1.heap.size ≤ k ∧ k < W0.heap.size) A2 (some ⟨W2.heap.size, 0, none⟩) c2 1 (clean g) [a] W0 (by rw [HCL.out]; exact hbx1) hbx2
      (fun X hX => by
        rw [HCL.out]
        refine (HK2.out X ?_).more (by omega)
        refine (hk20.mono fun k hk _ => hk.1).trans hX |> fun h => ⟨h.os, h.tape, h.output, h.size, fun k hk hlt => h.block k ⟨hk, by omega⟩ hlt⟩)
      (.at_ _ _ (ints [a]) (by simp [ints]) (by unfold maxLen; omega) (fun j u hu => by
        refine ⟨by show W2.heap.size < W0.heap.size; omega, ?_⟩
        rw [add_plain, Nat.zero_add, hfb0.cell, ← Array.getElem?_toList]; exact hu))
      (fun k hk => hk.2) (Nat.le_refl _) (by rw [HCL.out]; omega) HFU.out)
  rw [hW3, hW4, hW0]
  clear hW0 hW3 hW4 hmk hbx1 hbx2 hfb0 hk20 htb1 hrs1 hab1 hvb1 hb1 up HW1 hC1
  refine wpIn_range rfl (by decide) (gf := 28) (lb := #[.pointer (some ⟨W2.heap.size + 1, 0, none⟩), .pointer (some ⟨W2.heap.size + 2, 0, none⟩)]) rfl trivial (enters_of Try.func28 (by kernel_rfl) rfl) HT2.out (Below.refl _ _) (fun _ => rfl)
    (fun k => k < W0.heap.size) (fun k h h' => by unfold Two at h; omega) (fun k h => by omega) (fun k h => by unfold Two at h; omega) (by omega)
    (fun pre W => (W.cell? ⟨w.heap.size + 3, 0, none⟩ = some (.slice (some ⟨w.heap.size + 2, 0, none⟩) N N) ∧ Blk W (w.heap.size + 2) 3 (aheads N pre)) ∧ (Blk W w.heap.size 3 #[.int .i64 b] ∧ Blk W (w.heap.size + 1) 23 #[.slice none 0 0] ∧ ∀ s ∈ pre, (s.1 : Int) ≠ b) ∧ Below w.heap.size w W ∧ W0.heap.size ≤ W.heap.size)
    (fun ch pre W => ch = .ret ∧ (∃ RA RC, W.cell? ⟨w.heap.size + 1, 0, none⟩ = some (.slice RA (way g a b).length RC) ∧ SlV W W.heap.size (.slice RA (way g a b).length RC) (nats (way g a b))) ∧ Below w.heap.size w W ∧ W0.heap.size ≤ W.heap.size)
    (fun pre X Y ⟨⟨h1, h2⟩, ⟨h5, h6, h7⟩, h3, h4⟩ hk => ⟨⟨hk.cell (by show w.heap.size + 3 < W0.heap.size; omega) h1, (hk.block _ (by omega) h2.lt).trans h2⟩, ⟨(hk.block _ (by omega) h5.lt).trans h5, (hk.block _ (by omega) h6.lt).trans h6, h7⟩, h3.trans (hk.below (by omega) (fun k hk1 => by omega)), Nat.le_trans h4 hk.size⟩)
    (fun ch pre X Y ⟨h1, ⟨RA, RC, h2, h3⟩, h4, h5⟩ hk hc => ⟨h1, ⟨RA, RC, (hc _).trans h2, (h3.keep fun p _ => hc p).more hk.size⟩, h4.trans (hk.below (by omega) fun k hk1 => by unfold Two; omega), Nat.le_trans h5 hk.size⟩)
    ⟨⟨by rw [hvb0.cell]; rfl, by rw [aheads_nil]; exact hab0⟩, ⟨htb0, hrs0, by simp⟩, hb0, Nat.le_refl _⟩
    (fun x => { tmps := #[.slice A N c, .int .i64 a, .int .i64 b, undef, undef, .pointer (some ⟨w.heap.size, 0, none⟩), .pointer (some ⟨w.heap.size + 1, 0, none⟩), .pointer (some ⟨w.heap.size + 3, 0, none⟩), .int .i64 (x.1 : Int), .int .i64 (ahd x.2), .slice A N c, .int .i64 (N : Int), .slice (some ⟨w.heap.size + 2, 0, none⟩) N N, .slice A N c, .slice A2 N c2, .int .i64 a, .slice (some ⟨W2.heap.size, 0, none⟩) 1 1, .func (.func 28) #[] #[.pointer (some ⟨W2.heap.size + 1, 0, none⟩), .pointer (some ⟨W2.heap.size + 2, 0, none⟩)], .int .i64 (x.1 : Int), .int .i64 (ahd x.2), undef, undef, undef, undef, undef, undef, undef, undef, undef, undef], defers := [] }) ?assign ?body ?done ?stop
  case assign =>
    intro l x W K hK
    gi_wp2
    exact hK
  case body =>
    rintro l pre ⟨x, t⟩ W ⟨⟨hvb, hab⟩, ⟨htb, hrs, hnb⟩, hbel, hsz⟩ hpre hsz2
    have hmem : (x, t) ∈ pre ++ [(x, t)] := List.mem_append.2 (.inr (List.mem_singleton.2 rfl))
    have hxN : x < N := by have := told_lt (hpre.subset hmem); rw [HCL.out] at this; exact this
    have hnd := told_nodup hpre
    have hxni : x ∉ pre.map (·.1) := by
      rw [List.map_append, List.nodup_append] at hnd
      exact fun h => hnd.2.2 x h x (by simp) rfl
    have hxI : (x : Int) < (N : Int) := by omega
    have ctb : W.cell? ⟨w.heap.size, 0, none⟩ = some (.int .i64 b) := by rw [htb.cell]; rfl
    have cab : W.cell? ⟨w.heap.size + 2, x, none⟩ = some (.int .i64 (ahdOf pre x)) := by rw [hab.cell, aheads_at _ hxN]
    have fab : W.frozen? ⟨w.heap.size + 2, x, none⟩ = false := hab.frozen x
    obtain ⟨X1, hX1⟩ : ∃ X1, W.setCell ⟨w.heap.size + 2, x, none⟩ (.int .i64 (ahd t)) = X1 := ⟨_, rfl⟩
    have hk1 : Keeps (fun k => k ≠ w.heap.size + 2) W X1 := by rw [← hX1]; exact (Keeps.refl _ W).setCell (by simp) _
    have hab1 : Blk X1 (w.heap.size + 2) 3 (aheads N (pre ++ [(x, t)])) := by rw [← hX1, ← aheads_set pre t hxni]; exact hab.stored _ _
    have htb1 : Blk X1 w.heap.size 3 #[.int .i64 b] := (hk1.block _ (by omega) htb.lt).trans htb
    have hrs1 : Blk X1 (w.heap.size + 1) 23 #[.slice none 0 0] := (hk1.block _ (by omega) hrs.lt).trans hrs
    have hvb1 : X1.cell? ⟨w.heap.size + 3, 0, none⟩ = some (.slice (some ⟨w.heap.size + 2, 0, none⟩) N N) := hk1.cell (by show w.heap.size + 3 ≠ w.heap.size + 2; omega) hvb
    have hbel1 : Below w.heap.size w X1 := hbel.trans (hk1.below (by omega) fun k hk => by omega)
    have ctb1 : X1.cell? ⟨w.heap.size, 0, none⟩ = some (.int .i64 b) := by rw [htb1.cell]; rfl
    have hszx : W.heap.size ≤ X1.heap.size := hk1.size
    by_cases hb : (x : Int) = b
    · subst hb
      have HW := Lib.hid (show Calls Try.prog 22 #[.int .i64 (x : Int), .slice (some ⟨w.heap.size + 2, 0, none⟩) N N] X1 fun e w' => ∃ v, e = .returned v ∧ w'.ownsRow X1.heap.size 3 1 v (t.length + 1) (nats (x :: t).reverse) ∧ Below X1.heap.size X1 w' from
        wayTo_any X1 (w.heap.size + 2) N (x :: t) (by simp) (by
            have := told_short (hpre.subset hmem)
            rw [HCL.out] at this; omega) hab1.lt fun i y hy => by
          have hm := chain_of (closed_of hpre) i (x, t) hmem y hy
          have hyN : y < N := by have := told_lt (hpre.subset hm); rw [HCL.out] at this; exact this
          refine ⟨hyN, ?_⟩
          rw [hab1.cell, aheads_at _ hyN, ahdOf_mem hnd hm]; rfl)
      have HWAY := Lib.hid (way_told (g := g) hpre)
      have crs1 : X1.cell? ⟨w.heap.size + 1, 0, none⟩ = some (.slice none 0 0) := by rw [hrs1.cell]; rfl
      have HK1 := Lib.hid hk1
      have HR1 := Lib.hid hrs1
      have HBL := Lib.hid hbel1
      clear hnb hpre hnd hxni hab htb hrs hab1 htb1 hrs1 hbel hbel1 hk1 hmem
      gi_wp2_with (refine ⟨trivial, ?_⟩; gi_at_call 22; refine (CallsIn.inRound l (callsIn_wide.2 HW.out)).mono ?_; rintro e X2 ⟨v, rfl, hown, hb2⟩; obtain ⟨g', cap', rfl⟩ := ownsRow_succ hown; have HO := Lib.hid hown; have HB3 := Lib.hid hb2; have crs2 : X2.cell? ⟨w.heap.size + 1, 0, none⟩ = some (.slice none 0 0) := (hb2.cell (p := ⟨w.heap.size + 1, 0, none⟩) HR1.out.lt).trans crs1; have frs2 : X2.frozen? ⟨w.heap.size + 1, 0, none⟩ = false := (HR1.out.below hb2 HR1.out.lt).frozen 0; clear hown hb2)
      have hlen : (way g a x).length = t.length + 1 := by rw [HWAY.out]; simp
      have hlt2 : X1.heap.size ≤ X2.heap.size := HB3.out.size
      refine ⟨?_, rfl, ⟨some ⟨g', 0, none⟩, cap', ?_, ?_⟩, ?_, ?_⟩
      · refine Keeps.setCell ?_ (by unfold Two; simp; omega) _
        refine (HK1.out.mono fun k hk _ => ?_).trans (Keeps.of_below HB3.out fun k _ h => h)
        unfold Two at hk; omega
      · rw [hlen]; exact World.cell?_setCell_same' _ _ _ (by rw [crs2]; rfl)
      · rw [hlen, HWAY.out]
        have h1 : (X2.setCell ⟨w.heap.size + 1, 0, none⟩ (.slice (some ⟨g', 0, none⟩) (t.length + 1) cap')).ownsRow X1.heap.size 3 1 (.slice (some ⟨g', 0, none⟩) (t.length + 1) cap') (t.length + 1) (nats (x :: t).reverse) :=
          own_keep HO.out fun q hq _ _ => Below.heap_setCell _ _ _ _ (show q ≠ w.heap.size + 1 by omega)
        exact SlV.of_own h1
      · exact (HBL.out.trans (HB3.out.mono (by omega))).setCell (p := ⟨w.heap.size + 1, 0, none⟩) (by show w.heap.size ≤ w.heap.size + 1; omega) _
      · simp [World.setCell]; omega
    · have hbE : ((x : Int) == b) = false := by simpa using hb
      have hnb2 : ∀ s ∈ pre ++ [(x, t)], (s.1 : Int) ≠ b := fun s hs => by
        rcases List.mem_append.1 hs with hs | hs
        · exact hnb s hs
        · rw [List.mem_singleton] at hs; subst hs; exact hb
      have HF := Lib.hid (show Keeps (fun k => (((W1.heap.size ≤ k ∧ k < W0.heap.size) ∨ k = W2.heap.size + 1 ∨ k = W2.heap.size + 2) ∨ W0.heap.size + 2 ≤ k) ∨ Two W0.heap.size k) W X1 ∧ (X1.cell? ⟨w.heap.size + 3, 0, none⟩ = some (.slice (some ⟨w.heap.size + 2, 0, none⟩) N N) ∧ Blk X1 (w.heap.size + 2) 3 (aheads N (pre ++ [(x, t)]))) ∧ (Blk X1 w.heap.size 3 #[.int .i64 b] ∧ Blk X1 (w.heap.size + 1) 23 #[.slice none 0 0] ∧ ∀ s ∈ pre ++ [(x, t)], (s.1 : Int) ≠ b) ∧ Below w.heap.size w X1 ∧ W0.heap.size ≤ X1.heap.size from
        ⟨hk1.mono fun k hk _ => by unfold Two at hk; omega, ⟨hvb1, hab1⟩, ⟨htb1, hrs1, hnb2⟩, hbel1, by omega⟩)
      clear hnb hpre hnd hxni hab htb hrs hab1 htb1 hrs1 hbel hbel1 hk1 hmem hnb2 hb
      gi_wp2
      exact HF.out
  case done =>
    rintro W ⟨⟨hvb, hab⟩, ⟨htb, hrs, hnb⟩, hbel, hsz⟩ hD
    have HWAY := Lib.hid (way_untold (g := g) (a := a) (b := b) hnb)
    have crs : W.cell? ⟨w.heap.size + 1, 0, none⟩ = some (.slice none 0 0) := by rw [hrs.cell]; rfl
    have frs : W.frozen? ⟨w.heap.size + 1, 0, none⟩ = false := hrs.frozen 0
    have HBL := Lib.hid hbel
    have HD := Lib.hid hD
    clear hab htb hrs hnb hbel hD
    gi_wp2
    have hD2 : (W.setCell ⟨w.heap.size + 1, 0, none⟩ (.slice none 0 0)).heap[W0.heap.size]? = some (.deferred (some [])) := (Below.heap_setCell _ _ _ _ (show W0.heap.size ≠ w.heap.size + 1 by omega)).trans HD.out
    refine ⟨by simp, .inl ⟨_, _, rfl, run_takeDeferred hD2, ?_⟩⟩
    have hc5 : ((W.setCell ⟨w.heap.size + 1, 0, none⟩ (.slice none 0 0)).putObj W0.heap.size (.deferred none)).cell? ⟨w.heap.size + 1, 0, none⟩ = some (.slice none 0 0) :=
      (cell_putDef hD2 _).trans (World.cell?_setCell_same' _ _ _ (by rw [crs]; rfl))
    refine ⟨.slice none 0 0, ?_, none, 0, ?_, ?_, ?_⟩
    · simp [results, Try.f16, go_sem, hc5]
    · rw [HWAY.out]; rfl
    · rw [HWAY.out]; exact .nil
    · refine (HBL.out.setCell (p := ⟨w.heap.size + 1, 0, none⟩) (by show w.heap.size ≤ w.heap.size + 1; omega) _).trans ⟨rfl, rfl, rfl, by simp, fun k hk => World.putObj_heap_other (by omega)⟩
  case stop =>
    rintro ch pre W _ ⟨rfl, ⟨RA, RC, hc, hsl⟩, hbel, hsz⟩ hD
    have HS := Lib.hid hsl
    have HBL := Lib.hid hbel
    clear hsl hbel
    gi_wp2
    refine ⟨by simp, .inl ⟨_, _, rfl, run_takeDeferred hD, ?_⟩⟩
    have hc5 : (W.putObj W0.heap.size (.deferred none)).cell? ⟨w.heap.size + 1, 0, none⟩ = some (.slice RA (way g a b).length RC) := (cell_putDef hD _).trans hc
    refine ⟨.slice RA (way g a b).length RC, ?_, RA, RC, rfl, ?_, ?_⟩
    · simp [results, Try.f16, go_sem, hc5]
    · rw [World.putObj_size]; exact HS.out.keep fun p _ => cell_putDef hD p
    · exact HBL.out.trans ⟨rfl, rfl, rfl, by simp, fun k hk => World.putObj_heap_other (by omega)⟩
end Go.Proofs.Ytfgnlemoodfgoaa.By
