/-
  WALKS of layer 15: data that are alike; few; a reader that is nobody's. try clear h1
  try clear h2
  try clear h3
  try clear h4
  go_enter Tryz.func14, Tryz.ntmps14
  go_wp2_with fail
  go_ret
  exact ⟨rfl, HB.out⟩S of layer 16: functions that are alike; few.
-/
import Derived.Test.YtbknmapkdjmcjaaGreatDoorEf
import Derived.Test.YtbknmapkdjmcjaaGreatDoorJa
namespace Go.Proofs.YtbknmapkdjmcjaaGreatDoor.By
open Go.RowKit
open Mem Gm Rf
set_option linter.unusedSimpArgs false
set_option linter.unusedVariables false

set_option maxRecDepth 100000 in
set_option maxHeartbeats 1000000 in
theorem sameR_same (w : World) (A A2 : Option Addr) (n c c2 : Nat) (l : List Rl) (h : RlL w A n c l) (h2 : RlL w A2 n c2 l) (hn : n ≤ 10000) :
    Calls Tryz.prog 90 #[.slice A n c, .slice A2 n c2] w (TAns w) := by
  have HR := Lib.hid (fun W (hb : Below w.heap.size w W) i (hi : i < n) => (h.on hb).at_ hi)
  have HR2 := Lib.hid (fun W (hb : Below w.heap.size w W) i (hi : i < n) => (h2.on hb).at_ hi)
  clear h h2
  go_enter Tryz.func90, Tryz.ntmps90
  go_wp2_with fail
  go_loopw [5] (fun i wr => ∃ k : Nat, k ≤ n ∧ i = .int .i64 (k : Int) ∧ Below w.heap.size w wr) (fun i _ => n - (intOf i).toNat)
  case atStart => exact ⟨0, Nat.zero_le _, rfl, Below.refl _ _⟩
  case round =>
    obtain ⟨k, hk, rfl, hbel⟩ := hrel
    have HBE := Lib.hid hbel
    by_cases hlt : k < n
    · have hkI : (k : Int) < (n : Int) := by omega
      have hk0 : 0 ≤ (k : Int) := by omega
      obtain ⟨ad, rfl, _, c0, c1, c2'⟩ := HR.out wr hbel k hlt
      obtain ⟨ad2, rfl, _, d0, d1, d2⟩ := HR2.out wr hbel k hlt
      generalize rlAt l k = x at c0 c1 c2' d0 d1 d2
      obtain ⟨x0, x1, x2⟩ := x
      clear hbel
      go_wp2_with fail
      go_quiet (fail)
      go_wp2_with fail
      go_roundw
      case rel => exact ⟨k + 1, by omega, by go_num, below_drewN HBE.out _⟩
      case measure => simp [intOf]; omega
    · obtain rfl : k = n := by omega
      clear hbel
      go_wp2_with fail
      go_ret
      exact ⟨rfl, HBE.out⟩

theorem blk33 {w : World} {g h : Nat} {t : TypeId} {x0 x1 x2 y0 y1 y2 : Value} (hx : Blk w g t #[x0, x1, x2]) (hy : Blk w h t #[y0, y1, y2]) : (w.cell? ⟨g, 0, none⟩ = some x0 ∧ w.cell? ⟨g, 1, none⟩ = some x1 ∧ w.cell? ⟨g, 2, none⟩ = some x2) ∧ w.cell? ⟨h, 0, none⟩ = some y0 ∧ w.cell? ⟨h, 1, none⟩ = some y1 ∧ w.cell? ⟨h, 2, none⟩ = some y2 := ⟨blk3 hx, blk3 hy⟩

set_option maxRecDepth 100000 in
set_option maxHeartbeats 1000000 in
theorem same_same (w : World) (kd : Int) (AW BW AR BR : Option Addr) (nW cW dW nR cR dR : Nat) (ws : List Int) (rs : List Rl) (h1 : IW w (.slice AW nW cW) ws) (h2 : IW w (.slice BW nW dW) ws) (hL : ws.length = nW) (hn : nW ≤ 10000) (h3 : RlL w AR nR cR rs) (h4 : RlL w BR nR dR rs) (hR : nR ≤ 10000) :
    Calls Tryz.prog 120 #[.agg #[.int .i64 kd, .slice AW nW cW, .slice AR nR cR], .agg #[.int .i64 kd, .slice BW nW dW, .slice BR nR dR]] w (TAns w) := by
  obtain ⟨W1, hW1⟩ : ∃ W1, (w.alloc (.cells #[.int .i64 kd, .slice AW nW cW, .slice AR nR cR] 137)).alloc (.cells #[.int .i64 kd, .slice BW nW dW, .slice BR nR dR] 137) = W1 := ⟨_, rfl⟩
  have HB0 := Lib.hid (show Below w.heap.size w W1 by rw [← hW1]; exact to_ (alloc_ _ _) (alloc_ _ _))
  have hx : Blk W1 w.heap.size 137 #[.int .i64 kd, .slice AW nW cW, .slice AR nR cR] := by rw [← hW1]; exact (Blk.new w _ _).alloc _
  have hy : Blk W1 (w.heap.size + 1) 137 #[.int .i64 kd, .slice BW nW dW, .slice BR nR dR] := by
    rw [← hW1]; have := Blk.new (w.alloc (.cells #[.int .i64 kd, .slice AW nW cW, .slice AR nR cR] 137)) 137 #[.int .i64 kd, .slice BW nW dW, .slice BR nR dR]; rwa [World.size_alloc] at this
  have HX := Lib.hid (fun W (hb : Below W1.heap.size W1 W) => blk33 (hx.below hb hx.lt) (hy.below hb hy.lt))
  have HSR := Lib.hid (fun W (hb : Below w.heap.size w W) => sameR_same W AR BR nR cR dR rs (h3.on hb) (h4.on hb) hR)
  have HC1 := Lib.hid (fun W (hb : Below w.heap.size w W) i (hi : i < nW) => iw_cell (h1.on hb) hL hi)
  have HC2 := Lib.hid (fun W (hb : Below w.heap.size w W) i (hi : i < nW) => iw_cell (h2.on hb) hL hi)
  have HD0 := Lib.hid (drew_below W1)
  have hHeld := HX.out W1.drew HD0.out
  clear h1 h2 h3 h4 hx hy hL
  go_enter Tryz.func120, Tryz.ntmps120
  obtain ⟨⟨x0, x1, x2⟩, y0, y1, y2⟩ := HX.out W1 (Below.refl _ _)
  go_wp2_with fail
  clear hW1 x0 x1 x2 y0 y1 y2 hHeld
  refine (HSR.out _ HB0.out).mono ?_
  rintro e w2 ⟨rfl, b2⟩
  have HB2 := Lib.hid b2
  clear b2
  go_wp2_with fail
  go_loopw [5] (fun i wr => ∃ k : Nat, k ≤ nW ∧ i = .int .i64 (k : Int) ∧ Below W1.heap.size W1 wr) (fun i _ => nW - (intOf i).toNat)
  case atStart => exact ⟨0, Nat.zero_le _, rfl, HB2.out⟩
  case round =>
    obtain ⟨k, hk, rfl, hbel⟩ := hrel
    have HBE := Lib.hid hbel
    obtain ⟨⟨x0, x1, x2⟩, y0, y1, y2⟩ := HX.out wr hbel
    by_cases hlt : k < nW
    · have hkI : (k : Int) < (nW : Int) := by omega
      have hk0 : 0 ≤ (k : Int) := by omega
      obtain ⟨ad, rfl, _, c0⟩ := HC1.out wr (to_ HB0.out hbel) k hlt
      obtain ⟨ad2, rfl, _, d0⟩ := HC2.out wr (to_ HB0.out hbel) k hlt
      generalize el ws k = x at c0 d0
      clear hbel
      go_wp2_with fail
      go_quiet (fail)
      go_wp2_with fail
      go_roundw
      case rel => exact ⟨k + 1, by omega, by go_num, below_drewN HBE.out _⟩
      case measure => simp [intOf]; omega
    · obtain rfl : k = nW := by omega
      clear hbel
      go_wp2_with fail
      go_ret
      exact ⟨rfl, to_ HB0.out HBE.out⟩

def fewD (a b : Nat) : Bool := decide (a ≤ 100 ∧ b ≤ 100)
theorem fewD_any (w : World) (kd : Int) (AW AR : Option Addr) (nW cW nR cR : Nat) :
    Calls Tryz.prog 106 #[.agg #[.int .i64 kd, .slice AW nW cW, .slice AR nR cR]] w fun e w' => e = .returned (.bool (fewD nW nR)) ∧ Below w.heap.size w w' := by
  by_cases h1 : nW ≤ 100
  · have e1 : (nW : Int) ≤ 100 := by omega
    by_cases h2 : nR ≤ 100
    · have e2 : (nR : Int) ≤ 100 := by omega
      rw [show fewD nW nR = true from decide_eq_true ⟨h1, h2⟩]
      clear h1 h2
      go_enter Tryz.func106, Tryz.ntmps106
      go_wp2_with fail
      go_ret
      exact ⟨rfl, alloc_ _ _⟩
    · have e2 : ¬ (nR : Int) ≤ 100 := by omega
      rw [show fewD nW nR = false from decide_eq_false fun h => h2 h.2]
      clear h1 h2
      go_enter Tryz.func106, Tryz.ntmps106
      go_wp2_with fail
      go_ret
      exact ⟨rfl, alloc_ _ _⟩
  · have e1 : ¬ (nW : Int) ≤ 100 := by omega
    rw [show fewD nW nR = false from decide_eq_false fun h => h1 h.1]
    clear h1
    go_enter Tryz.func106, Tryz.ntmps106
    go_wp2_with fail
    go_ret
    exact ⟨rfl, alloc_ _ _⟩

set_option maxRecDepth 100000 in
set_option maxHeartbeats 1000000 in
theorem getD_nil (w : World) : Calls Tryz.prog 201 #[.pointer none] w fun e w' => e = .returned (.tuple #[.agg #[.int .i64 0, .slice none 0 0, .slice none 0 0], .int .i64 5]) ∧ Below w.heap.size w w' := by
  have HN := Lib.hid (fun W => num_nil W 1)
  have HB := Lib.hid (fun W => bad_nil W)
  obtain ⟨W0, hW0⟩ : ∃ W0, w.alloc (.cells #[.int .i64 0, .slice none 0 0, .slice none 0 0] 137) = W0 := ⟨_, rfl⟩
  obtain ⟨W2, hW2⟩ : ∃ W2, W0.alloc (.cells #[.int .i64 0, .slice none 0 0, .slice none 0 0] 137) = W2 := ⟨_, rfl⟩
  have hr : Blk W2 w.heap.size 137 #[.int .i64 0, .slice none 0 0, .slice none 0 0] := by rw [← hW2, ← hW0]; exact (Blk.new w _ _).alloc _
  have HB2 := Lib.hid (show Below w.heap.size w W2 by rw [← hW2, ← hW0]; exact to_ (alloc_ _ _) (alloc_ _ _))
  have HR := Lib.hid hr
  have HW2 := Lib.hid hW2
  clear hr hW2
  go_enter Tryz.func201, Tryz.ntmps201
  go_wp2_with fail
  refine (HN.out _).mono ?_
  rintro e w1 ⟨rfl, rfl⟩
  go_wp2_with fail
  rw [HW2.out]
  clear hW0
  obtain ⟨r0, r1, r2⟩ := blk_ce3 HR.out
  obtain ⟨f0, f1, f2⟩ := blk_fr3 HR.out
  refine (HN.out _).mono ?_
  rintro e w1 ⟨rfl, rfl⟩
  go_wp2_with fail
  go_loopw [12] (fun i wr => i = .int .i64 0 ∧ wr = W2) (fun _ _ => 0)
  case atStart => exact ⟨rfl, rfl⟩
  case round =>
    obtain ⟨rfl, rfl⟩ := hrel
    go_wp2_with (go_at_call 190; go_loud (refine (HN.out _).mono ?_; rintro e w1 ⟨rfl, rfl⟩))
    obtain ⟨wz, hwz⟩ : ∃ wz, wz = wr := ⟨_, rfl⟩
    subst hwz
    go_loopw [24] (fun i wy => i = .int .i64 0 ∧ wy = wz) (fun _ _ => 0)
    case atStart => exact ⟨rfl, rfl⟩
    case round =>
      obtain ⟨rfl, rfl⟩ := hrel
      go_wp2_with (go_at_call 227; go_loud (refine (HB.out _).mono ?_; rintro e w1 ⟨rfl, rfl⟩))
      have HP := Lib.hid (blk_put3 HR.out (.int .i64 0) (.slice none 0 0) (.slice none 0 0))
      obtain ⟨z0, z1, z2⟩ := blk_ce3 HP.out
      refine bodyPost_ret (v := .tuple #[.agg #[.int .i64 0, .slice none 0 0, .slice none 0 0], .int .i64 5]) (by simp [results, Tryz.results201, go_sem, z0, z1, z2]) rfl ⟨rfl, ?_⟩
      exact below_put3 HB2.out _ (Nat.le_refl _) _ _ _
end Go.Proofs.YtbknmapkdjmcjaaGreatDoor.By

namespace Go.Proofs.YtbknmapkdjmcjaaGreatDoor.By
open Go.RowKit
open Mem Gm Rf
set_option linter.unusedSimpArgs false
set_option linter.unusedVariables false

set_option maxRecDepth 100000 in
set_option maxHeartbeats 8000000 in
theorem sameF_same (w : World) (AK AL AC AR AK2 AL2 AC2 AR2 : Option Addr) (nK cK nL cL nC cC nR cR cK2 cL2 cC2 cR2 : Nat) (x : Fn) (hF : FnW w AK nK cK AL nL cL AC nC cC AR nR cR x) (hF2 : FnW w AK2 nK cK2 AL2 nL cL2 AC2 nC cC2 AR2 nR cR2 x) (hK : nK ≤ 1000) (hL : nL ≤ 1000) (hC : nC ≤ 1000) (hR : nR ≤ 1000) :
    Calls Tryz.prog 27 #[.agg #[.int .i64 x.k, .slice AK nK cK, .int .i64 x.pd, .bool x.ns, .int .i64 x.f, .int .i64 x.t, .slice AL nL cL, .slice AC nC cC, .slice AR nR cR], .agg #[.int .i64 x.k, .slice AK2 nK cK2, .int .i64 x.pd, .bool x.ns, .int .i64 x.f, .int .i64 x.t, .slice AL2 nL cL2, .slice AC2 nC cC2, .slice AR2 nR cR2]] w (TAns w) := by
  obtain ⟨k0, ks, pd, ns, f0, t0, ls, cs, rs⟩ := x
  obtain ⟨hk, hkl, hl, hc, hr⟩ := hF
  obtain ⟨hk2, hkl2, hl2, hc2, hr2⟩ := hF2
  dsimp only at hk hkl hl hc hr hk2 hkl2 hl2 hc2 hr2 ⊢
  obtain ⟨W1, hW1⟩ : ∃ W1, (w.alloc (.cells #[.int .i64 k0, .slice AK nK cK, .int .i64 pd, .bool ns, .int .i64 f0, .int .i64 t0, .slice AL nL cL, .slice AC nC cC, .slice AR nR cR] 27)).alloc (.cells #[.int .i64 k0, .slice AK2 nK cK2, .int .i64 pd, .bool ns, .int .i64 f0, .int .i64 t0, .slice AL2 nL cL2, .slice AC2 nC cC2, .slice AR2 nR cR2] 27) = W1 := ⟨_, rfl⟩
  have hsz1 : w.heap.size + 1 < W1.heap.size := by rw [← hW1]; simp
  have HB0 := Lib.hid (show Below w.heap.size w W1 by rw [← hW1]; exact to_ (alloc_ _ _) (alloc_ _ _))
  have HX := Lib.hid (show ∀ W, Below W1.heap.size W1 W → Blk W w.heap.size 27 #[.int .i64 k0, .slice AK nK cK, .int .i64 pd, .bool ns, .int .i64 f0, .int .i64 t0, .slice AL nL cL, .slice AC nC cC, .slice AR nR cR] ∧ Blk W (w.heap.size + 1) 27 #[.int .i64 k0, .slice AK2 nK cK2, .int .i64 pd, .bool ns, .int .i64 f0, .int .i64 t0, .slice AL2 nL cL2, .slice AC2 nC cC2, .slice AR2 nR cR2] from fun W hb => ⟨(hb.block _ (by omega)).trans (by rw [← hW1]; exact (Blk.new w _ _).alloc _), (hb.block _ hsz1).trans (by rw [← hW1]; have := Blk.new (w.alloc (.cells #[.int .i64 k0, .slice AK nK cK, .int .i64 pd, .bool ns, .int .i64 f0, .int .i64 t0, .slice AL nL cL, .slice AC nC cC, .slice AR nR cR] 27)) 27 #[.int .i64 k0, .slice AK2 nK cK2, .int .i64 pd, .bool ns, .int .i64 f0, .int .i64 t0, .slice AL2 nL cL2, .slice AC2 nC cC2, .slice AR2 nR cR2]; rwa [World.size_alloc] at this)⟩)
  have HIK := Lib.hid (fun W (hb : Below W1.heap.size W1 W) => ints_w (w := W) hkl (hk.on (to_ HB0.out hb)) (hk2.on (to_ HB0.out hb)) hK)
  have HSR := Lib.hid (fun W (hb : Below W1.heap.size W1 W) => sameR_same W AR AR2 nR cR cR2 rs (hr.on (to_ HB0.out hb)) (hr2.on (to_ HB0.out hb)) (by omega))
  have HCL := Lib.hid (fun W (hb : Below W1.heap.size W1 W) i (hi : i < nL) => (hl.on (to_ HB0.out hb)).at_ hi)
  have HCL2 := Lib.hid (fun W (hb : Below W1.heap.size W1 W) i (hi : i < nL) => (hl2.on (to_ HB0.out hb)).at_ hi)
  have HCC := Lib.hid (fun W (hb : Below W1.heap.size W1 W) i (hi : i < nC) => (hc.on (to_ HB0.out hb)).at_ hi)
  have HCC2 := Lib.hid (fun W (hb : Below W1.heap.size W1 W) i (hi : i < nC) => (hc2.on (to_ HB0.out hb)).at_ hi)
  clear hk hkl hl hc hr hk2 hkl2 hl2 hc2 hr2 hR hK
  obtain ⟨c0, c1, c2, c3, c4, c5, c6, c7, c8⟩ := blk9 (HX.out W1 (Below.refl _ _)).1; obtain ⟨d0, d1, d2, d3, d4, d5, d6, d7, d8⟩ := blk9 (HX.out W1 (Below.refl _ _)).2
  go_enter Tryz.func27, Tryz.ntmps27
  go_wp2_with (first
    | (go_at_call 89; refine (HIK.out W1 (Below.refl _ _)).mono ?_; rintro e w2 ⟨rfl, hb2⟩; have HB2 := Lib.hid hb2; clear c0 c1 c2 c3 c4 c5 c6 c7 c8 d0 d1 d2 d3 d4 d5 d6 d7 d8; obtain ⟨c0, c1, c2, c3, c4, c5, c6, c7, c8⟩ := blk9 (HX.out w2 hb2).1; obtain ⟨d0, d1, d2, d3, d4, d5, d6, d7, d8⟩ := blk9 (HX.out w2 hb2).2; clear hb2)
    | (go_at_call 90; refine (HSR.out _ HB2.out).mono ?_; rintro e w3 ⟨rfl, hb3⟩; have HB3 := Lib.hid (to_ HB2.out hb3); clear c0 c1 c2 c3 c4 c5 c6 c7 c8 d0 d1 d2 d3 d4 d5 d6 d7 d8; obtain ⟨c0, c1, c2, c3, c4, c5, c6, c7, c8⟩ := blk9 (HX.out w3 HB3.out).1; obtain ⟨d0, d1, d2, d3, d4, d5, d6, d7, d8⟩ := blk9 (HX.out w3 HB3.out).2; clear hb3))
  clear hW1
  go_loopw [5] (fun i wr => ∃ k : Nat, k ≤ nL ∧ i = .int .i64 (k : Int) ∧ Below W1.heap.size W1 wr) (fun i _ => nL - (intOf i).toNat)
  case atStart => exact ⟨0, Nat.zero_le _, rfl, HB3.out⟩
  case round =>
    obtain ⟨k, hk, rfl, hbel⟩ := hrel
    have HBE := Lib.hid hbel
    clear c0 c1 c2 c3 c4 c5 c6 c7 c8 d0 d1 d2 d3 d4 d5 d6 d7 d8
    obtain ⟨c0, c1, c2, c3, c4, c5, c6, c7, c8⟩ := blk9 (HX.out wr hbel).1; obtain ⟨d0, d1, d2, d3, d4, d5, d6, d7, d8⟩ := blk9 (HX.out wr hbel).2
    by_cases hlt : k < nL
    · have hkI : (k : Int) < (nL : Int) := by omega
      have hk0 : 0 ≤ (k : Int) := by omega
      obtain ⟨ad, rfl, _, a0, a1⟩ := HCL.out wr hbel k hlt
      obtain ⟨ad2, rfl, _, b0, b1⟩ := HCL2.out wr hbel k hlt
      generalize lnAt ls k = x at a0 a1 b0 b1
      obtain ⟨x0, x1⟩ := x
      clear hbel
      go_wp2_with fail
      go_quiet (fail)
      go_wp2_with fail
      go_roundw
      case rel => exact ⟨k + 1, by omega, by go_num, below_drewN HBE.out _⟩
      case measure => simp [intOf]; omega
    · obtain rfl : k = nL := by omega
      obtain ⟨wz, hwz⟩ : ∃ wz, wz = wr := ⟨_, rfl⟩
      subst hwz
      clear hbel
      go_wp2_with fail
      go_loopw [6] (fun i wr => ∃ k : Nat, k ≤ nC ∧ i = .int .i64 (k : Int) ∧ Below W1.heap.size W1 wr) (fun i _ => nC - (intOf i).toNat)
      case atStart => exact ⟨0, Nat.zero_le _, rfl, HBE.out⟩
      case round =>
        obtain ⟨k2, hk2, rfl, hbel⟩ := hrel
        have HBE2 := Lib.hid hbel
        clear c0 c1 c2 c3 c4 c5 c6 c7 c8 d0 d1 d2 d3 d4 d5 d6 d7 d8
        obtain ⟨c0, c1, c2, c3, c4, c5, c6, c7, c8⟩ := blk9 (HX.out wr hbel).1; obtain ⟨d0, d1, d2, d3, d4, d5, d6, d7, d8⟩ := blk9 (HX.out wr hbel).2
        by_cases hlt2 : k2 < nC
        · have hkI : (k2 : Int) < (nC : Int) := by omega
          have hk0 : 0 ≤ (k2 : Int) := by omega
          obtain ⟨ad, rfl, _, a0, a1, a2, a3, a4⟩ := HCC.out wr hbel k2 hlt2
          obtain ⟨ad2, rfl, _, b0, b1, b2, b3, b4⟩ := HCC2.out wr hbel k2 hlt2
          generalize inAt cs k2 = x at a0 a1 a2 a3 a4 b0 b1 b2 b3 b4
          obtain ⟨x0, x1, x2, x3, x4⟩ := x
          clear hbel
          go_wp2_with fail
          go_quiet (fail)
          go_wp2_with fail
          go_roundw
          case rel => exact ⟨k2 + 1, by omega, by go_num, below_drewN HBE2.out _⟩
          case measure => simp [intOf]; omega
        · obtain rfl : k2 = nC := by omega
          clear hbel
          go_wp2_with fail
          go_ret
          exact ⟨rfl, to_ HB0.out HBE2.out⟩

def fewB (nK nL nC nR : Nat) : Bool := decide (nK ≤ 100) && decide (nL ≤ 100) && decide (nC ≤ 100) && decide (nR ≤ 100)
set_option maxHeartbeats 2000000 in
theorem fewF_any (w : World) (k0 pd f0 t0 : Int) (ns : Bool) (AK AL AC AR : Option Addr) (nK cK nL cL nC cC nR cR : Nat) :
    Calls Tryz.prog 14 #[.agg #[.int .i64 k0, .slice AK nK cK, .int .i64 pd, .bool ns, .int .i64 f0, .int .i64 t0, .slice AL nL cL, .slice AC nC cC, .slice AR nR cR]] w fun e w' => e = .returned (.bool (fewB nK nL nC nR)) ∧ Below w.heap.size w w' := by
  have hb0 : Blk (w.alloc (.cells #[.int .i64 k0, .slice AK nK cK, .int .i64 pd, .bool ns, .int .i64 f0, .int .i64 t0, .slice AL nL cL, .slice AC nC cC, .slice AR nR cR] 27)) w.heap.size 27 #[.int .i64 k0, .slice AK nK cK, .int .i64 pd, .bool ns, .int .i64 f0, .int .i64 t0, .slice AL nL cL, .slice AC nC cC, .slice AR nR cR] := Blk.new w _ _
  have HB := Lib.hid (alloc_ w (.cells #[.int .i64 k0, .slice AK nK cK, .int .i64 pd, .bool ns, .int .i64 f0, .int .i64 t0, .slice AL nL cL, .slice AC nC cC, .slice AR nR cR] 27))
  obtain ⟨c0, c1, c2, c3, c4, c5, c6, c7, c8⟩ := blk9 hb0
  clear hb0
  unfold fewB
  by_cases h1 : nK ≤ 100
  · have i1 : (nK : Int) ≤ 100 := by omega
    by_cases h2 : nL ≤ 100
    · have i2 : (nL : Int) ≤ 100 := by omega
      by_cases h3 : nC ≤ 100
      · have i3 : (nC : Int) ≤ 100 := by omega
        by_cases h4 : nR ≤ 100
        · have i4 : (nR : Int) ≤ 100 := by omega
          rw [decide_eq_true h1, decide_eq_true h2, decide_eq_true h3, decide_eq_true h4]
          try clear h1
          try clear h2
          try clear h3
          try clear h4
          go_enter Tryz.func14, Tryz.ntmps14
          go_wp2_with fail
          go_ret
          exact ⟨rfl, HB.out⟩
        · have i4 : ¬ (nR : Int) ≤ 100 := by omega
          rw [decide_eq_true h1, decide_eq_true h2, decide_eq_true h3, decide_eq_false h4]
          try clear h1
          try clear h2
          try clear h3
          try clear h4
          go_enter Tryz.func14, Tryz.ntmps14
          go_wp2_with fail
          go_ret
          exact ⟨rfl, HB.out⟩
      · have i3 : ¬ (nC : Int) ≤ 100 := by omega
        rw [decide_eq_true h1, decide_eq_true h2, decide_eq_false h3, Bool.and_false, Bool.false_and]
        try clear h1
        try clear h2
        try clear h3
        try clear h4
        go_enter Tryz.func14, Tryz.ntmps14
        go_wp2_with fail
        go_ret
        exact ⟨rfl, HB.out⟩
    · have i2 : ¬ (nL : Int) ≤ 100 := by omega
      rw [decide_eq_true h1, decide_eq_false h2, Bool.and_false, Bool.false_and, Bool.false_and]
      try clear h1
      try clear h2
      try clear h3
      try clear h4
      go_enter Tryz.func14, Tryz.ntmps14
      go_wp2_with fail
      go_ret
      exact ⟨rfl, HB.out⟩
  · have i1 : ¬ (nK : Int) ≤ 100 := by omega
    rw [decide_eq_false h1, Bool.false_and, Bool.false_and, Bool.false_and]
    try clear h1
    try clear h2
    try clear h3
    try clear h4
    go_enter Tryz.func14, Tryz.ntmps14
    go_wp2_with fail
    go_ret
    exact ⟨rfl, HB.out⟩
end Go.Proofs.YtbknmapkdjmcjaaGreatDoor.By
