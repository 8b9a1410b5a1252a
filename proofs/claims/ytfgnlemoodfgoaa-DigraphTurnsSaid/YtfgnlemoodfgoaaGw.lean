/-
  WALK: known of layer 10's laws: it answers true.
-/
import Derived.Test.YtfgnlemoodfgoaaGv
namespace Go.Proofs.Ytfgnlemoodfgoaa.By
open Go.RowKit
open Mem Gm Rf

def gK : List (List Int) := [[1, 1, 7], [2], []]
def gC : List (List Int) := [[1], [2], []]
def gT : List (List Int) := [[], [0], [1]]
theorem gK_fits : Fits gK 24 30 := by unfold Fits; decide +kernel
theorem gK_way : wayI gK 0 2 = [0, 1, 2] := by decide +kernel
theorem gK_reach : reachV gK [1] = [.bool false, .bool true, .bool true] := by
  have h : (List.range gK.length).map (reach gK [1]) = [false, true, true] := by decide +kernel
  have := congrArg (List.map Value.bool) h
  simpa [reachV, List.map_map, Function.comp_def] using this
theorem gK_clean : clean gK = gC := by decide +kernel
theorem gK_turn : turn gK = gT := by decide +kernel

/-- Three rows of literals, and the list of them. -/
theorem GW.three {w : World} {b : Nat} {u : TypeId} {r0 r1 r2 : Value} {l0 l1 l2 : List Int} (hb : Blk w b u #[r0, r1, r2]) (h0 : ∃ A c, r0 = .slice A l0.length c) (h1 : ∃ A c, r1 = .slice A l1.length c) (h2 : ∃ A c, r2 = .slice A l2.length c)
    (i0 : IW w r0 l0) (i1 : IW w r1 l1) (i2 : IW w r2 l2) : GW w (.slice (some ⟨b, 0, none⟩) 3 3) [l0, l1, l2] := by
  refine GW.built [l0, l1, l2] hb rfl (by simp) fun i rv hi => ?_
  match i, hi with
  | 0, hi => obtain ⟨A, c, e⟩ := h0; obtain rfl : r0 = rv := (by simpa using hi); exact ⟨A, c, e, i0⟩
  | 1, hi => obtain ⟨A, c, e⟩ := h1; obtain rfl : r1 = rv := (by simpa using hi); exact ⟨A, c, e, i1⟩
  | 2, hi => obtain ⟨A, c, e⟩ := h2; obtain rfl : r2 = rv := (by simpa using hi); exact ⟨A, c, e, i2⟩
  | i + 3, hi => simp at hi

theorem IW.lit {w : World} {b : Nat} {t : TypeId} {cs : Array Value} (l : List Int) (n : Nat) (hb : Blk w b t cs) (hc : cs.toList = ints l) (hn : l.length = n) (hm : n ≤ 1000) : IW w (.slice (some ⟨b, 0, none⟩) n n) l := by
  subst hn; exact IW.built l hb hc hm

theorem BW.lit {w : World} {b : Nat} {t : TypeId} {cs : Array Value} (g : List (List Int)) (fs : List Int) (n : Nat) (hb : Blk w b t cs) (hc : cs.toList = reachV g fs) (hn : g.length = n) (hm : n ≤ 1000) : BW w (.slice (some ⟨b, 0, none⟩) n n) g fs := by
  have hlen : (reachV g fs).length = n := by simp [reachV, hn]
  have : SlV w w.heap.size (.slice (some ⟨b, 0, none⟩) (reachV g fs).length n) (reachV g fs) :=
    .at_ _ _ _ (by rw [hlen]; exact Nat.le_refl _) (by unfold maxLen; omega) fun j u hu => ⟨hb.lt, by rw [add_plain, Nat.zero_add, hb.cell, ← Array.getElem?_toList, hc]; exact hu⟩
  rwa [hlen] at this

theorem size_alloc (w : World) (o : Obj) : (w.alloc o).heap.size = w.heap.size + 1 := by simp

/-- Two rows of literals and one that is nil. -/
theorem built_ab (w : World) (l0 l1 : List Int) (n0 n1 : Nat) (t0 t1 u : TypeId) (h0 : l0.length = n0) (h1 : l1.length = n1) (m0 : n0 ≤ 1000) (m1 : n1 ≤ 1000) :
    GW (((w.alloc (.cells (ints l0).toArray t0)).alloc (.cells (ints l1).toArray t1)).alloc (.cells #[.slice (some ⟨w.heap.size, 0, none⟩) n0 n0, .slice (some ⟨w.heap.size + 1, 0, none⟩) n1 n1, .slice none 0 0] u)) (.slice (some ⟨w.heap.size + 1 + 1, 0, none⟩) 3 3) [l0, l1, []] := by
  have hb := Blk.new ((w.alloc (.cells (ints l0).toArray t0)).alloc (.cells (ints l1).toArray t1)) u #[.slice (some ⟨w.heap.size, 0, none⟩) n0 n0, .slice (some ⟨w.heap.size + 1, 0, none⟩) n1 n1, .slice none 0 0]
  rw [size_alloc, size_alloc] at hb
  have hb1 := (Blk.new (w.alloc (.cells (ints l0).toArray t0)) t1 (ints l1).toArray)
  rw [size_alloc] at hb1
  refine GW.three hb ⟨_, _, by rw [h0]⟩ ⟨_, _, by rw [h1]⟩ ⟨_, _, rfl⟩ ?_ ?_ (IW.emp _)
  · exact IW.lit l0 n0 (((Blk.new w t0 _).alloc _).alloc _) (by simp) h0 m0
  · exact IW.lit l1 n1 (hb1.alloc _) (by simp) h1 m1
theorem built_0ab (w : World) (l0 l1 : List Int) (n0 n1 : Nat) (t0 t1 u : TypeId) (h0 : l0.length = n0) (h1 : l1.length = n1) (m0 : n0 ≤ 1000) (m1 : n1 ≤ 1000) :
    GW (((w.alloc (.cells (ints l0).toArray t0)).alloc (.cells (ints l1).toArray t1)).alloc (.cells #[.slice none 0 0, .slice (some ⟨w.heap.size, 0, none⟩) n0 n0, .slice (some ⟨w.heap.size + 1, 0, none⟩) n1 n1] u)) (.slice (some ⟨w.heap.size + 1 + 1, 0, none⟩) 3 3) [[], l0, l1] := by
  have hb := Blk.new ((w.alloc (.cells (ints l0).toArray t0)).alloc (.cells (ints l1).toArray t1)) u #[.slice none 0 0, .slice (some ⟨w.heap.size, 0, none⟩) n0 n0, .slice (some ⟨w.heap.size + 1, 0, none⟩) n1 n1]
  rw [size_alloc, size_alloc] at hb
  have hb1 := (Blk.new (w.alloc (.cells (ints l0).toArray t0)) t1 (ints l1).toArray)
  rw [size_alloc] at hb1
  refine GW.three hb ⟨_, _, rfl⟩ ⟨_, _, by rw [h0]⟩ ⟨_, _, by rw [h1]⟩ (IW.emp _) ?_ ?_
  · exact IW.lit l0 n0 (((Blk.new w t0 _).alloc _).alloc _) (by simp) h0 m0
  · exact IW.lit l1 n1 (hb1.alloc _) (by simp) h1 m1

/-- Three blocks more. -/
theorem alloc3_ (w : World) (a b c : Obj) : Below w.heap.size w (((w.alloc a).alloc b).alloc c) := to_ (to_ (alloc_ w a) (alloc_ _ b)) (alloc_ _ c)

set_option maxHeartbeats 2000000 in
set_option maxRecDepth 100000 in
theorem known_any (w : World) : Calls Try.prog 7 #[] w (TAns w) := by
  have HG0 := Lib.hid (built_ab w [1, 1, 7] [2] 3 1 3 3 23 rfl rfl (by decide) (by decide))
  go_enter Try.func7, Try.ntmps7
  go_wp2_with fail
  refine (reach_w _ _ _ 3 1 3 1 gK [1] rfl rfl (HG0.out.on (alloc_ _ _)) (IW.lit [1] 1 (by have := Blk.new (((w.alloc (Obj.cells (ints [1, 1, 7]).toArray 3)).alloc (Obj.cells (ints [2]).toArray 3)).alloc (.cells #[.slice (some ⟨w.heap.size, 0, none⟩) 3 3, .slice (some ⟨w.heap.size + 1, 0, none⟩) 1 1, .slice none 0 0] 23)) 3 #[.int .i64 1]; rw [size_alloc, size_alloc, size_alloc] at this; exact this) rfl rfl (by decide)) gK_fits (by decide)).mono ?_
  rintro e w1 ⟨A1, rfl, h1, b1⟩
  have HR1 := Lib.hid h1
  have HG1 := Lib.hid ((HG0.out.on (alloc_ _ _)).on b1)
  have HB1 := Lib.hid (to_ (to_ (alloc3_ w _ _ _) (alloc_ _ _)) b1)
  clear h1 b1 HG0
  go_wp2_with fail
  refine (way_w _ _ 3 3 3 gK 0 2 rfl (by rw [gK_way]; rfl) HG1.out gK_fits).mono ?_
  rintro e w2 ⟨A2, c2, rfl, h2, b2⟩
  rw [gK_way] at h2
  have HI2 := Lib.hid h2
  have HR2 := Lib.hid (HR1.out.on b2)
  have HG2 := Lib.hid (HG1.out.on b2)
  have HB2 := Lib.hid (to_ HB1.out b2)
  clear h2 b2 HR1 HG1 HB1
  go_wp2_with fail
  refine (ints_w _ _ _ _ _ 3 [0, 1, 2] rfl (HI2.out.on (alloc_ _ _)) (IW.lit [0, 1, 2] 3 (Blk.new w2 3 _) rfl rfl (by decide)) (by decide)).mono ?_
  rintro e w3 ⟨rfl, b3⟩
  have HR3 := Lib.hid ((HR2.out.on (alloc_ _ _)).on b3)
  have HG3 := Lib.hid ((HG2.out.on (alloc_ _ _)).on b3)
  have HB3 := Lib.hid (to_ (to_ HB2.out (alloc_ _ _)) b3)
  clear b3 HI2 HR2 HG2 HB2
  go_wp2_with fail
  refine (bools_w _ _ _ _ _ 3 gK [1] rfl (HR3.out.on (alloc_ _ _)) (BW.lit gK [1] 3 (Blk.new w3 4 _) gK_reach.symm rfl (by decide)) (by decide)).mono ?_
  rintro e w4 ⟨rfl, b4⟩
  have HG4 := Lib.hid ((HG3.out.on (alloc_ _ _)).on b4)
  have HB4 := Lib.hid (to_ (to_ HB3.out (alloc_ _ _)) b4)
  clear b4 HR3 HG3 HB3
  go_wp2_with fail
  refine (clean_w _ _ 3 3 gK rfl HG4.out gK_fits).mono ?_
  rintro e w5 ⟨A5, c5, rfl, h5, b5⟩
  rw [gK_clean] at h5
  have HI5 := Lib.hid h5
  have HG5 := Lib.hid (HG4.out.on b5)
  have HB5 := Lib.hid (to_ HB4.out b5)
  clear h5 b5 HG4 HB4
  go_wp2_with fail
  refine (same_w _ _ _ _ _ 3 gC rfl (HI5.out.on (alloc3_ _ _ _ _)) (built_ab w5 [1] [2] 1 1 3 3 23 rfl rfl (by decide) (by decide)) (by decide)).mono ?_
  rintro e w6 ⟨rfl, b6⟩
  have HG6 := Lib.hid ((HG5.out.on (alloc3_ _ _ _ _)).on b6)
  have HB6 := Lib.hid (to_ (to_ HB5.out (alloc3_ _ _ _ _)) b6)
  clear b6 HI5 HG5 HB5
  go_wp2_with fail
  refine (turn_w _ _ 3 3 gK rfl HG6.out gK_fits).mono ?_
  rintro e w7 ⟨A7, c7, rfl, h7, b7⟩
  rw [gK_turn] at h7
  have HI7 := Lib.hid h7
  have HB7 := Lib.hid (to_ HB6.out b7)
  clear h7 b7 HG6 HB6
  go_wp2_with fail
  refine (same_w _ _ _ _ _ 3 gT rfl (HI7.out.on (alloc3_ _ _ _ _)) (built_0ab w7 [0] [1] 1 1 3 3 23 rfl rfl (by decide) (by decide)) (by decide)).mono ?_
  rintro e w8 ⟨rfl, b8⟩
  have HB8 := Lib.hid (to_ (to_ HB7.out (alloc3_ _ _ _ _)) b8)
  clear b8 HI7 HB7
  go_wp2_with fail
  go_ret
  exact ⟨rfl, HB8.out⟩
end Go.Proofs.Ytfgnlemoodfgoaa.By
