/-
  WALK: Reach.
-/
import Derived.Test.YthkbdclnnpcoiaaGh
import Derived.Test.YthkbdclnnpcoiaaGf
import Derived.RangeFuncBox
namespace Go.Proofs.Ythkbdclnnpcoiaa.By
open Go.RowKit
open Mem Gm Rf
attribute [local go_sem] Oper.semAt_some

/-- What Reach tells. -/
def reachV (g : List (List Int)) (fs : List Int) : List Value := (List.range g.length).map fun i => .bool (reach g fs i)
theorem bools_told (g : List (List Int)) (fs : List Int) : (bools g.length (told g fs)).toList = reachV g fs := rfl

theorem told_lt {g : List (List Int)} {fs : List Int} {s : Nat × List Nat} (h : s ∈ told g fs) : s.1 < g.length := ((told_inv g fs).walk s h).1.head

set_option maxRecDepth 100000 in
set_option maxHeartbeats 4000000 in
theorem reach_any (A A2 : Option Addr) (c c2 B : Nat) (g : List (List Int)) (fs : List Int) (w : World) (hG : Gr w B (.slice A g.length c) g) (hF : SlV w B (.slice A2 fs.length c2) (ints fs)) (hB : B ≤ w.heap.size) (hs : g.length ≤ 1000) (hm : fuel g fs.length ≤ 1000000) :
    Calls Try.prog 24 #[.slice A g.length c, .slice A2 fs.length c2] w fun e w' => ∃ A', e = .returned (.slice A' g.length g.length) ∧ SlV w' w'.heap.size (.slice A' g.length g.length) (reachV g fs) ∧ Below w.heap.size w w' ∧ ∀ ad, A' = some ad → w.heap.size ≤ ad.block := by
  obtain ⟨N, hN⟩ : ∃ N, g.length = N := ⟨_, rfl⟩
  obtain ⟨M, hM⟩ : ∃ M, fs.length = M := ⟨_, rfl⟩
  have HN := Lib.hid hN
  have HM := Lib.hid hM
  have HG := Lib.hid hG
  have HF := Lib.hid hF
  have HMU := Lib.hid hm
  have HBT := Lib.hid (bools_told g fs)
  rw [hN] at HBT
  rw [hM] at HF HMU
  have hmk := make_bools N (hN ▸ hs)
  rw [hN] at hs ⊢
  rw [hM]
  clear hN hM hG hF hm
  refine (callsIn_wide (n := 4)).1 ?_
  refine callsIn_of_wp_marks Try.func24 rfl trivial ?_ rfl
  simp only [Try.ntmps24, List.size_toArray, List.length_cons, List.length_nil, Nat.reduceAdd, Nat.reduceSub, Array.replicate_succ, Array.replicate_zero, List.push_toArray, List.append_toArray, List.nil_append, List.cons_append]
  gi_wp2_with (refine ⟨trivial, ?_⟩; gi_at_call 32; refine (callsIn_wide.2 (walk_any _ _ _ _ _ _ _)).mono ?_; rintro e w2 ⟨rfl, rfl⟩)
  obtain ⟨W1, hW1⟩ : ∃ W1, (w.alloc (.cells (Array.replicate N (.bool false)) 4)).alloc (.cells #[.slice (some ⟨w.heap.size, 0, none⟩) N N] 43) = W1 := ⟨_, rfl⟩
  have hsz1 : W1.heap.size = w.heap.size + 2 := by rw [← hW1]; simp
  obtain ⟨W2, hW2⟩ : ∃ W2, W1.alloc (.cells #[.slice A N c] 48) = W2 := ⟨_, rfl⟩
  have hsz2 : W2.heap.size = w.heap.size + 3 := by rw [← hW2]; simp [hsz1]
  obtain ⟨W0, hW0⟩ : ∃ W0, W2.alloc (.cells #[.slice A2 M c2] 22) = W0 := ⟨_, rfl⟩
  have hsz0 : W0.heap.size = w.heap.size + 4 := by rw [← hW0]; simp [hsz2]
  have hrb1 : Blk W1 w.heap.size 4 (Array.replicate N (.bool false)) := by rw [← hW1]; exact (Blk.new w _ _).alloc _
  have hvb1 : Blk W1 (w.heap.size + 1) 43 #[.slice (some ⟨w.heap.size, 0, none⟩) N N] := by
    rw [← hW1]; have := Blk.new (w.alloc (.cells (Array.replicate N (.bool false)) 4)) 43 #[.slice (some ⟨w.heap.size, 0, none⟩) N N]; rwa [World.size_alloc] at this
  have hrb0 : Blk W0 w.heap.size 4 (Array.replicate N (.bool false)) := by rw [← hW0, ← hW2]; exact (hrb1.alloc _).alloc _
  have hvb0 : Blk W0 (w.heap.size + 1) 43 #[.slice (some ⟨w.heap.size, 0, none⟩) N N] := by rw [← hW0, ← hW2]; exact (hvb1.alloc _).alloc _
  have hbx1 : W0.cell? ⟨w.heap.size + 2, 0, none⟩ = some (.slice A N c) := by
    rw [← hW0, ← hW2]; have := ((Blk.new W1 48 #[.slice A N c]).alloc (.cells #[.slice A2 M c2] 22)).cell 0; rw [hsz1] at this; simpa using this
  have hbx2 : W0.cell? ⟨w.heap.size + 3, 0, none⟩ = some (.slice A2 M c2) := by
    rw [← hW0]; have := (Blk.new W2 22 #[.slice A2 M c2]).cell 0; rw [hsz2] at this; simpa using this
  have hb0 : Below w.heap.size w W0 := by rw [← hW0, ← hW2, ← hW1]; exact ((((Below.refl _ w).alloc (Nat.le_refl _) _).alloc (by simp) _).alloc (by simp; omega) _).alloc (by simp; omega) _
  have HT2 := Lib.hid (show Tells Fence.wide 3 Try.prog 37 #[.pointer (some ⟨w.heap.size + 2, 0, none⟩), .pointer (some ⟨w.heap.size + 3, 0, none⟩)] (fun x : Nat × List Nat => #[Value.int .i64 (x.1 : Int), Value.int .i64 (ahd x.2)])
      (fun L k => (k < B ∨ k = w.heap.size + 2 ∨ k = w.heap.size + 3) ∨ L ≤ k) (fun L k => k < L) (told g fs) W0 from
    walk_tells 3 (by decide) (w.heap.size + 2) (w.heap.size + 3) B (fun k => k < B) A A2 c c2 g fs W0 (by rw [HN.out]; exact hbx1) (by rw [HM.out]; exact hbx2)
      (fun X hX => by rw [HN.out]; rw [HN.out] at HG; exact HG.out.below ((hb0.mono hB).trans (hX.below (by omega) fun _ h => h))) (by rw [HM.out]; exact HF.out.below (hb0.mono hB)) (fun k hk => by omega) (by omega) (by rw [HN.out]; exact hs) (by rw [HM.out]; exact HMU.out))
  rw [hW1, hW2, hW0]
  clear hW0 hW1 hW2 hmk hbx1 hbx2 hrb1 hvb1
  refine wpIn_range rfl (by decide) (gf := 37) (lb := #[.pointer (some ⟨w.heap.size + 2, 0, none⟩), .pointer (some ⟨w.heap.size + 3, 0, none⟩)]) rfl trivial (enters_of Try.func37 (by kernel_rfl) rfl) HT2.out (Below.refl _ _) (fun _ => rfl)
    (fun k => k < W0.heap.size) (fun k h h' => by unfold Two at h; omega) (fun k h => by omega) (fun k h => by unfold Two at h; omega) (by omega)
    (fun pre W => (W.cell? ⟨w.heap.size + 1, 0, none⟩ = some (.slice (some ⟨w.heap.size, 0, none⟩) N N) ∧ Blk W w.heap.size 4 (bools N pre)) ∧ Below w.heap.size w W ∧ W0.heap.size ≤ W.heap.size)
    (fun _ _ _ => False)
    (fun pre X Y ⟨⟨h1, h2⟩, h3, h4⟩ hk => ⟨⟨hk.cell (by show w.heap.size + 1 < W0.heap.size; omega) h1, (hk.block _ (by omega) h2.lt).trans h2⟩, h3.trans (hk.below (by omega) (fun k hk1 => by omega)), Nat.le_trans h4 hk.size⟩)
    (fun _ _ _ _ h _ _ => h)
    ⟨⟨by rw [hvb0.cell]; rfl, by rw [bools_nil]; exact hrb0⟩, hb0, Nat.le_refl _⟩
    (fun x => { tmps := #[.slice A N c, .slice A2 M c2, undef, undef, .slice none 0 0, .pointer (some ⟨w.heap.size + 1, 0, none⟩), .int .i64 (x.1 : Int), .slice A N c, .int .i64 (N : Int), .slice (some ⟨w.heap.size, 0, none⟩) N N, .slice A N c, .slice A2 M c2, .func (.func 37) #[] #[.pointer (some ⟨w.heap.size + 2, 0, none⟩), .pointer (some ⟨w.heap.size + 3, 0, none⟩)], .int .i64 (x.1 : Int), .int .i64 (ahd x.2), undef, undef, undef, undef], defers := [] }) ?assign ?body ?done ?stop
  case assign =>
    intro l x W K hK
    gi_wp2
    exact hK
  case body =>
    rintro l pre ⟨a, t⟩ W ⟨⟨hvb, hrb⟩, hbel, hsz⟩ hpre hsz2
    have hxm : a < N := by
      have := told_lt (hpre.subset (List.mem_append.2 (.inr (List.mem_singleton.2 rfl))))
      rw [HN.out] at this; exact this
    have hxI : (a : Int) < (N : Int) := by omega
    have hcl : W.cell? ⟨w.heap.size, a, none⟩ = some (.bool ((pre.map (·.1)).contains a)) := by rw [hrb.cell, bools_at _ hxm]
    have hfr : W.frozen? ⟨w.heap.size, a, none⟩ = false := hrb.frozen a
    have HRB := Lib.hid hrb
    have HB2 := Lib.hid hbel
    clear hrb hbel hpre
    gi_wp2
    refine ⟨(Keeps.refl _ W).setCell (by unfold Two; simp; omega) _, ⟨?_, ?_⟩, HB2.out.setCell (p := ⟨w.heap.size, a, none⟩) (Nat.le_refl _) _, ?_⟩
    · rw [World.cell?_setCell_other _ _ _ _ (by simp)]; exact hvb
    · rw [← bools_set pre t]; exact HRB.out.stored _ _
    · simpa [World.setCell] using hsz
  case done =>
    rintro W ⟨⟨hvb, hrb⟩, hbel, hsz⟩ hD
    have HRB := Lib.hid hrb
    have HB2 := Lib.hid hbel
    clear hrb hbel
    gi_wp2
    refine ⟨by simp, .inl ⟨_, _, rfl, run_takeDeferred hD, ?_⟩⟩
    refine ⟨_, results_tmp rfl _ _ _, _, rfl, ?_, ?_, fun ad e => by injection e with e; subst e; exact Nat.le_refl _⟩
    · have h1 : Blk (W.putObj W0.heap.size (.deferred none)) w.heap.size 4 (bools N (told g fs)) := (World.putObj_heap_other (by omega)).trans HRB.out
      rw [← HBT.out]
      have hl : (bools N (told g fs)).toList.length = N := by simp [bools]
      have h2 : SlV (W.putObj W0.heap.size (.deferred none)) (W.putObj W0.heap.size (.deferred none)).heap.size (.slice (some ⟨w.heap.size, 0, none⟩) (bools N (told g fs)).toList.length N) (bools N (told g fs)).toList :=
        .at_ _ _ _ (by omega) (by unfold maxLen; omega) fun j u hu => ⟨h1.lt, by rw [add_plain, Nat.zero_add, h1.cell, ← Array.getElem?_toList]; exact hu⟩
      rwa [hl] at h2
    · exact HB2.out.trans ⟨rfl, rfl, rfl, by simp, fun k hk => World.putObj_heap_other (by omega)⟩
  case stop =>
    rintro ch pre W _ h _
    exact h.elim
end Go.Proofs.Ythkbdclnnpcoiaa.By
