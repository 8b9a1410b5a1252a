/-
  WALKS of layer 18: Check; the document's Least and Check.
-/
import Derived.Test.YthkbdclnnpcoiaaRc
namespace Go.Proofs.Ythkbdclnnpcoiaa.By
open Go.RowKit
open Mem Gm Rf
set_option linter.unusedSimpArgs false
set_option linter.unusedVariables false
attribute [local go_sem] Oper.semAt_some

def inB (f t : Int) (xs : List Int) : Bool := xs.all fun p => decide (f ≤ p) && decide (p < t)
def ckV (f t : Int) (xs : List Int) : Int := if inB f t xs then 0 else 9
theorem inB_snoc (f t : Int) (xs : List Int) (x : Int) : inB f t (xs ++ [x]) = (inB f t xs && (decide (f ≤ x) && decide (x < t))) := by
  unfold inB; rw [List.all_append]; simp
theorem inB_pre {f t : Int} {xs ys : List Int} (h : xs <+: ys) (hx : inB f t xs = false) : inB f t ys = false := by
  obtain ⟨zs, rfl⟩ := h
  unfold inB at hx ⊢
  rw [List.all_append, hx]; rfl
def CkAns (x : Int) (w : World) (e : Ending) (w' : World) : Prop := e = .returned (.int .i64 x) ∧ Below w.heap.size w w'

theorem blk9 {w : World} {g : Nat} {t : TypeId} {x0 x1 x2 x3 x4 x5 x6 x7 x8 : Value} (h : Blk w g t #[x0, x1, x2, x3, x4, x5, x6, x7, x8]) : w.cell? ⟨g, 0, none⟩ = some x0 ∧ w.cell? ⟨g, 1, none⟩ = some x1 ∧ w.cell? ⟨g, 2, none⟩ = some x2 ∧ w.cell? ⟨g, 3, none⟩ = some x3 ∧ w.cell? ⟨g, 4, none⟩ = some x4 ∧ w.cell? ⟨g, 5, none⟩ = some x5 ∧ w.cell? ⟨g, 6, none⟩ = some x6 ∧ w.cell? ⟨g, 7, none⟩ = some x7 ∧ w.cell? ⟨g, 8, none⟩ = some x8 :=
  ⟨h.cell 0, h.cell 1, h.cell 2, h.cell 3, h.cell 4, h.cell 5, h.cell 6, h.cell 7, h.cell 8⟩

set_option maxRecDepth 100000 in
set_option maxHeartbeats 4000000 in
theorem check_any (w : World) (x0 x1 x2 x3 x6 x8 : Value) (f t : Int) (A : Option Addr) (n c : Nat) (O T : Nat → Int) (o : Nat → Bool) (h : CW w A n c O T) (hn : n ≤ 1000) (ho : pdO n O T = o) :
    Calls Try.prog 12 #[.agg #[x0, x1, x2, x3, .int .i64 f, .int .i64 t, x6, .slice A n c, x8]] w (CkAns (ckV f t (pnT o n)) w) := by
  have HC := Lib.hid (show ∀ W, Below w.heap.size w W → CW W A n c O T from fun W hb => h.on hb)
  have HO := Lib.hid ho
  clear h ho
  refine (callsIn_wide (n := 4)).1 ?_
  refine callsIn_of_wp_marks Try.func12 rfl trivial ?_ rfl
  simp only [Try.ntmps12, List.size_toArray, List.length_cons, List.length_nil, Nat.reduceAdd, Nat.reduceSub, Array.replicate_succ, Array.replicate_zero, List.push_toArray, List.append_toArray, List.nil_append, List.cons_append]
  gi_wp2_with (refine ⟨trivial, ?_⟩; gi_at_call 16; refine (callsIn_wide.2 (pending_any _ _ _ _)).mono ?_; rintro e w2 ⟨rfl, rfl⟩)
  obtain ⟨W1, hW1⟩ : ∃ W1, (w.alloc (.cells #[x0, x1, x2, x3, .int .i64 f, .int .i64 t, x6, .slice A n c, x8] 27)).alloc (.cells #[.int .i64 0] 34) = W1 := ⟨_, rfl⟩
  have hsz1 : W1.heap.size = w.heap.size + 2 := by rw [← hW1]; simp
  obtain ⟨W0, hW0⟩ : ∃ W0, W1.alloc (.cells #[.slice A n c] 24) = W0 := ⟨_, rfl⟩
  have hsz0 : W0.heap.size = w.heap.size + 3 := by rw [← hW0]; simp [hsz1]
  have hb1 : Below w.heap.size w W1 := by rw [← hW1]; exact alloc2_ _ _ _
  have hb0 : Below w.heap.size w W0 := by rw [← hW0]; exact to_ hb1 (alloc_ _ _)
  have hx1 : Blk W1 w.heap.size 27 #[x0, x1, x2, x3, .int .i64 f, .int .i64 t, x6, .slice A n c, x8] := by rw [← hW1]; exact (Blk.new w _ _).alloc _
  have hy1 : Blk W1 (w.heap.size + 1) 34 #[.int .i64 0] := by
    rw [← hW1]; have := Blk.new (w.alloc (.cells #[x0, x1, x2, x3, .int .i64 f, .int .i64 t, x6, .slice A n c, x8] 27)) 34 #[.int .i64 0]; rwa [World.size_alloc] at this
  have hx0 : Blk W0 w.heap.size 27 #[x0, x1, x2, x3, .int .i64 f, .int .i64 t, x6, .slice A n c, x8] := by rw [← hW0]; exact hx1.alloc _
  have hy0 : Blk W0 (w.heap.size + 1) 34 #[.int .i64 0] := by rw [← hW0]; exact hy1.alloc _
  have hbx : W0.cell? ⟨w.heap.size + 2, 0, none⟩ = some (.slice A n c) := by rw [← hW0, ← hsz1]; exact (Blk.new W1 _ _).cell 0
  have HT2 := Lib.hid (pend_tells W0 (w.heap.size + 2) A n c O T o hbx (HC.out W0 hb0) hn HO.out)
  rw [hW1, hW0]
  clear hW1 hW0 hx1 hy1 hbx hb1
  refine wpIn_range rfl (by decide) (gf := 18) (lb := #[.pointer (some ⟨w.heap.size + 2, 0, none⟩)]) rfl trivial (enters_of Try.func18 (by kernel_rfl) rfl) HT2.out (Below.refl _ _) (fun _ => rfl)
    (fun k => k < W0.heap.size) (fun k h h' => by unfold Two at h; omega) (fun k h => by omega) (fun k h => by unfold Two at h; omega) (by omega)
    (fun pre W => (Blk W w.heap.size 27 #[x0, x1, x2, x3, .int .i64 f, .int .i64 t, x6, .slice A n c, x8] ∧ Blk W (w.heap.size + 1) 34 #[.int .i64 0] ∧ inB f t pre = true) ∧ Below w.heap.size w W ∧ W0.heap.size ≤ W.heap.size)
    (fun ch pre W => ch = .ret ∧ (W.cell? ⟨w.heap.size + 1, 0, none⟩ = some (.int .i64 9) ∧ inB f t pre = false) ∧ Below w.heap.size w W ∧ W0.heap.size ≤ W.heap.size)
    (fun pre X Y ⟨⟨h1, h2, h5⟩, h3, h4⟩ hk => ⟨⟨(hk.block _ (by omega) h1.lt).trans h1, (hk.block _ (by omega) h2.lt).trans h2, h5⟩, h3.trans (hk.below (by omega) (fun k hk1 => by omega)), Nat.le_trans h4 hk.size⟩)
    (fun ch pre X Y ⟨h1, ⟨h2, h3⟩, h4, h5⟩ hk hc => ⟨h1, ⟨(hc _).trans h2, h3⟩, h4.trans (hk.below (by omega) fun k hk1 => by unfold Two; omega), Nat.le_trans h5 hk.size⟩)
    ⟨⟨hx0, hy0, rfl⟩, hb0, Nat.le_refl _⟩
    (fun x => { tmps := #[.agg #[x0, x1, x2, x3, .int .i64 f, .int .i64 t, x6, .slice A n c, x8], .pointer (some ⟨w.heap.size, 0, none⟩), .pointer (some ⟨w.heap.size + 1, 0, none⟩), .int .i64 x, .pointer (some ⟨w.heap.size, 7, none⟩), .slice A n c, .func (.func 18) #[] #[.pointer (some ⟨w.heap.size + 2, 0, none⟩)], .int .i64 x, undef, undef, undef, undef], defers := [] }) ?assign ?body ?done ?stop
  case assign =>
    intro l x W K hK
    gi_wp2
    exact hK
  case body =>
    rintro l pre x W ⟨⟨hx, hy, hin⟩, hbel, hsz⟩ hpre hsz2
    obtain ⟨c0, c1, c2, c3, c4, c5, c6, c7, c8⟩ := blk9 hx
    have hyf : W.frozen? ⟨w.heap.size + 1, 0, none⟩ = false := hy.frozen 0
    have hyc : W.cell? ⟨w.heap.size + 1, 0, none⟩ = some (.int .i64 0) := hy.cell 0
    have HS := Lib.hid (inB_snoc f t pre x)
    rw [hin] at HS
    have HX := Lib.hid hx
    have HY := Lib.hid hy
    have HB := Lib.hid hbel
    have HI := Lib.hid (in_any W x0 x1 x2 x3 x6 (.slice A n c) x8 f t x)
    generalize (decide (f ≤ x) && decide (x < t)) = bl at HS HI
    clear hx hy hpre hbel hin
    cases bl with
    | true =>
      gi_wp2_with (refine ⟨trivial, ?_⟩; gi_at_call 14; refine (CallsIn.inRound l (callsIn_wide.2 HI.out)).mono ?_; rintro e X2 ⟨rfl, b2⟩; have HB2 := Lib.hid b2; clear b2)
      refine ⟨Keeps.of_below HB2.out (fun k _ h => h), ⟨(HB2.out.block _ HX.out.lt).trans HX.out, (HB2.out.block _ HY.out.lt).trans HY.out, HS.out⟩, to_ HB.out HB2.out, ?_⟩
      have := HB2.out.size
      omega
    | false =>
      gi_wp2
      refine ⟨trivial, ?_⟩
      refine (CallsIn.inRound l (callsIn_wide.2 HI.out)).mono ?_
      rintro e X2 ⟨rfl, b2⟩
      have hy2 : Blk X2 (w.heap.size + 1) 34 #[.int .i64 0] := (b2.block _ HY.out.lt).trans HY.out
      have hyc2 : X2.cell? ⟨w.heap.size + 1, 0, none⟩ = some (.int .i64 0) := hy2.cell 0
      have hyf2 : X2.frozen? ⟨w.heap.size + 1, 0, none⟩ = false := hy2.frozen 0
      have HB2 := Lib.hid b2
      clear b2 hy2
      gi_wp2
      refine ⟨?_, rfl, ⟨World.cell?_setCell_same' _ _ _ (by rw [hyc2]; rfl), HS.out⟩, (to_ HB.out HB2.out).setCell (p := ⟨w.heap.size + 1, 0, none⟩) (by show w.heap.size ≤ w.heap.size + 1; omega) _, ?_⟩
      · exact (Keeps.of_below HB2.out (fun k _ h => h)).setCell (by unfold Two; simp; omega) _
      · have := HB2.out.size
        simp [World.setCell]; omega
  case done =>
    rintro W ⟨⟨hx, hy, hin⟩, hbel, hsz⟩ hD
    have HV := Lib.hid (show ckV f t (pnT o n) = 0 by unfold ckV; rw [if_pos hin])
    have hyf : W.frozen? ⟨w.heap.size + 1, 0, none⟩ = false := hy.frozen 0
    have hyc : W.cell? ⟨w.heap.size + 1, 0, none⟩ = some (.int .i64 0) := hy.cell 0
    have HB := Lib.hid hbel
    have HD := Lib.hid hD
    clear hx hy hbel hin hD
    gi_wp2
    have hD2 : (W.setCell ⟨w.heap.size + 1, 0, none⟩ (.int .i64 0)).heap[W0.heap.size]? = some (.deferred (some [])) := (Below.heap_setCell _ _ _ _ (show W0.heap.size ≠ w.heap.size + 1 by omega)).trans HD.out
    refine ⟨by simp, .inl ⟨_, _, rfl, run_takeDeferred hD2, ?_⟩⟩
    have hc5 : ((W.setCell ⟨w.heap.size + 1, 0, none⟩ (.int .i64 0)).putObj W0.heap.size (.deferred none)).cell? ⟨w.heap.size + 1, 0, none⟩ = some (.int .i64 0) :=
      (cell_putDef hD2 _).trans (World.cell?_setCell_same' _ _ _ (by rw [hyc]; rfl))
    refine ⟨.int .i64 0, ?_, by rw [HV.out], ?_⟩
    · simp [results, Try.f12, go_sem, hc5]
    · refine (HB.out.setCell (p := ⟨w.heap.size + 1, 0, none⟩) (by show w.heap.size ≤ w.heap.size + 1; omega) _).trans ⟨rfl, rfl, rfl, by simp, fun k hk => World.putObj_heap_other (by omega)⟩
  case stop =>
    rintro ch pre W hpre ⟨rfl, ⟨hc, hin⟩, hbel, hsz⟩ hD
    have HV := Lib.hid (show ckV f t (pnT o n) = 9 by unfold ckV; rw [inB_pre hpre hin]; rfl)
    have HBL := Lib.hid hbel
    clear hbel hin hpre
    gi_wp2
    refine ⟨by simp, .inl ⟨_, _, rfl, run_takeDeferred hD, ?_⟩⟩
    have hc5 : (W.putObj W0.heap.size (.deferred none)).cell? ⟨w.heap.size + 1, 0, none⟩ = some (.int .i64 9) := (cell_putDef hD _).trans hc
    refine ⟨.int .i64 9, ?_, by rw [HV.out], ?_⟩
    · simp [results, Try.f12, go_sem, hc5]
    · exact HBL.out.trans ⟨rfl, rfl, rfl, by simp, fun k hk => World.putObj_heap_other (by omega)⟩
end Go.Proofs.Ythkbdclnnpcoiaa.By
