/-
  WALKS of layer 15: data that are alike; few; a reader that is nobody's.
-/
import Derived.Test.YthkbdclnnpcoiaaDoorEf
namespace Go.Proofs.YthkbdclnnpcoiaaDoor.By
open Go.RowKit
open Mem Gm Rf
set_option linter.unusedSimpArgs false
set_option linter.unusedVariables false

set_option maxRecDepth 100000 in
set_option maxHeartbeats 1000000 in
theorem sameR_same (w : World) (A A2 : Option Addr) (n c c2 : Nat) (l : List Rl) (h : RlL w A n c l) (h2 : RlL w A2 n c2 l) (hn : n ≤ 10000) :
    Calls Tryd.prog 45 #[.slice A n c, .slice A2 n c2] w (TAns w) := by
  have HR := Lib.hid (fun W (hb : Below w.heap.size w W) i (hi : i < n) => (h.on hb).at_ hi)
  have HR2 := Lib.hid (fun W (hb : Below w.heap.size w W) i (hi : i < n) => (h2.on hb).at_ hi)
  clear h h2
  go_enter Tryd.func45, Tryd.ntmps45
  go_wp2_with fail
  go_loopw [5] (fun i wr => ∃ k : Nat, k ≤ n ∧ i = .int .i64 (k : Int) ∧ Below w.heap.size w wr) (fun i _ => n - (intOf i).toNat)
  case atStart => exact ⟨0, Nat.zero_le _, rfl, Below.refl _ _⟩
  case round =>
    obtain ⟨k, hk, rfl, hbel⟩ := hrel
    have HBE := Lib.hid hbel
    by_cases hlt : k < n
    · have hkI : (k : Int) < (n : Int) := by omega
      have hk0 : 0 ≤ (k : Int) := by omega
      obtain ⟨ad, rfl, _, c0, c1, c2'⟩ := HR.out wr hbel k hlt
      obtain ⟨ad2, rfl, _, d0, d1, d2⟩ := HR2.out wr hbel k hlt
      generalize rlAt l k = x at c0 c1 c2' d0 d1 d2
      obtain ⟨x0, x1, x2⟩ := x
      clear hbel
      go_wp2_with fail
      go_quiet (fail)
      go_wp2_with fail
      go_roundw
      case rel => exact ⟨k + 1, by omega, by go_num, below_drewN HBE.out _⟩
      case measure => simp [intOf]; omega
    · obtain rfl : k = n := by omega
      clear hbel
      go_wp2_with fail
      go_ret
      exact ⟨rfl, HBE.out⟩

theorem blk33 {w : World} {g h : Nat} {t : TypeId} {x0 x1 x2 y0 y1 y2 : Value} (hx : Blk w g t #[x0, x1, x2]) (hy : Blk w h t #[y0, y1, y2]) : (w.cell? ⟨g, 0, none⟩ = some x0 ∧ w.cell? ⟨g, 1, none⟩ = some x1 ∧ w.cell? ⟨g, 2, none⟩ = some x2) ∧ w.cell? ⟨h, 0, none⟩ = some y0 ∧ w.cell? ⟨h, 1, none⟩ = some y1 ∧ w.cell? ⟨h, 2, none⟩ = some y2 := ⟨blk3 hx, blk3 hy⟩

set_option maxRecDepth 100000 in
set_option maxHeartbeats 1000000 in
theorem same_same (w : World) (kd : Int) (AW BW AR BR : Option Addr) (nW cW dW nR cR dR : Nat) (ws : List Int) (rs : List Rl) (h1 : IW w (.slice AW nW cW) ws) (h2 : IW w (.slice BW nW dW) ws) (hL : ws.length = nW) (hn : nW ≤ 10000) (h3 : RlL w AR nR cR rs) (h4 : RlL w BR nR dR rs) (hR : nR ≤ 10000) :
    Calls Tryd.prog 20 #[.agg #[.int .i64 kd, .slice AW nW cW, .slice AR nR cR], .agg #[.int .i64 kd, .slice BW nW dW, .slice BR nR dR]] w (TAns w) := by
  obtain ⟨W1, hW1⟩ : ∃ W1, (w.alloc (.cells #[.int .i64 kd, .slice AW nW cW, .slice AR nR cR] 25)).alloc (.cells #[.int .i64 kd, .slice BW nW dW, .slice BR nR dR] 25) = W1 := ⟨_, rfl⟩
  have HB0 := Lib.hid (show Below w.heap.size w W1 by rw [← hW1]; exact to_ (alloc_ _ _) (alloc_ _ _))
  have hx : Blk W1 w.heap.size 25 #[.int .i64 kd, .slice AW nW cW, .slice AR nR cR] := by rw [← hW1]; exact (Blk.new w _ _).alloc _
  have hy : Blk W1 (w.heap.size + 1) 25 #[.int .i64 kd, .slice BW nW dW, .slice BR nR dR] := by
    rw [← hW1]; have := Blk.new (w.alloc (.cells #[.int .i64 kd, .slice AW nW cW, .slice AR nR cR] 25)) 25 #[.int .i64 kd, .slice BW nW dW, .slice BR nR dR]; rwa [World.size_alloc] at this
  have HX := Lib.hid (fun W (hb : Below W1.heap.size W1 W) => blk33 (hx.below hb hx.lt) (hy.below hb hy.lt))
  have HSR := Lib.hid (fun W (hb : Below w.heap.size w W) => sameR_same W AR BR nR cR dR rs (h3.on hb) (h4.on hb) hR)
  have HC1 := Lib.hid (fun W (hb : Below w.heap.size w W) i (hi : i < nW) => iw_cell (h1.on hb) hL hi)
  have HC2 := Lib.hid (fun W (hb : Below w.heap.size w W) i (hi : i < nW) => iw_cell (h2.on hb) hL hi)
  have HD0 := Lib.hid (drew_below W1)
  have hHeld := HX.out W1.drew HD0.out
  clear h1 h2 h3 h4 hx hy hL
  go_enter Tryd.func20, Tryd.ntmps20
  obtain ⟨⟨x0, x1, x2⟩, y0, y1, y2⟩ := HX.out W1 (Below.refl _ _)
  go_wp2_with fail
  clear hW1 x0 x1 x2 y0 y1 y2 hHeld
  refine (HSR.out _ HB0.out).mono ?_
  rintro e w2 ⟨rfl, b2⟩
  have HB2 := Lib.hid b2
  clear b2
  go_wp2_with fail
  go_loopw [5] (fun i wr => ∃ k : Nat, k ≤ nW ∧ i = .int .i64 (k : Int) ∧ Below W1.heap.size W1 wr) (fun i _ => nW - (intOf i).toNat)
  case atStart => exact ⟨0, Nat.zero_le _, rfl, HB2.out⟩
  case round =>
    obtain ⟨k, hk, rfl, hbel⟩ := hrel
    have HBE := Lib.hid hbel
    obtain ⟨⟨x0, x1, x2⟩, y0, y1, y2⟩ := HX.out wr hbel
    by_cases hlt : k < nW
    · have hkI : (k : Int) < (nW : Int) := by omega
      have hk0 : 0 ≤ (k : Int) := by omega
      obtain ⟨ad, rfl, _, c0⟩ := HC1.out wr (to_ HB0.out hbel) k hlt
      obtain ⟨ad2, rfl, _, d0⟩ := HC2.out wr (to_ HB0.out hbel) k hlt
      generalize el ws k = x at c0 d0
      clear hbel
      go_wp2_with fail
      go_quiet (fail)
      go_wp2_with fail
      go_roundw
      case rel => exact ⟨k + 1, by omega, by go_num, below_drewN HBE.out _⟩
      case measure => simp [intOf]; omega
    · obtain rfl : k = nW := by omega
      clear hbel
      go_wp2_with fail
      go_ret
      exact ⟨rfl, to_ HB0.out HBE.out⟩

def fewD (a b : Nat) : Bool := decide (a ≤ 100 ∧ b ≤ 100)
theorem fewD_any (w : World) (kd : Int) (AW AR : Option Addr) (nW cW nR cR : Nat) :
    Calls Tryd.prog 6 #[.agg #[.int .i64 kd, .slice AW nW cW, .slice AR nR cR]] w fun e w' => e = .returned (.bool (fewD nW nR)) ∧ Below w.heap.size w w' := by
  by_cases h1 : nW ≤ 100
  · have e1 : (nW : Int) ≤ 100 := by omega
    by_cases h2 : nR ≤ 100
    · have e2 : (nR : Int) ≤ 100 := by omega
      rw [show fewD nW nR = true from decide_eq_true ⟨h1, h2⟩]
      clear h1 h2
      go_enter Tryd.func6, Tryd.ntmps6
      go_wp2_with fail
      go_ret
      exact ⟨rfl, alloc_ _ _⟩
    · have e2 : ¬ (nR : Int) ≤ 100 := by omega
      rw [show fewD nW nR = false from decide_eq_false fun h => h2 h.2]
      clear h1 h2
      go_enter Tryd.func6, Tryd.ntmps6
      go_wp2_with fail
      go_ret
      exact ⟨rfl, alloc_ _ _⟩
  · have e1 : ¬ (nW : Int) ≤ 100 := by omega
    rw [show fewD nW nR = false from decide_eq_false fun h => h1 h.1]
    clear h1
    go_enter Tryd.func6, Tryd.ntmps6
    go_wp2_with fail
    go_ret
    exact ⟨rfl, alloc_ _ _⟩

set_option maxRecDepth 100000 in
set_option maxHeartbeats 1000000 in
theorem getD_nil (w : World) : Calls Tryd.prog 18 #[.pointer none] w fun e w' => e = .returned (.tuple #[.agg #[.int .i64 0, .slice none 0 0, .slice none 0 0], .int .i64 5]) ∧ Below w.heap.size w w' := by
  have HN := Lib.hid (fun W => num_nil W 1)
  have HB := Lib.hid (fun W => bad_nil W)
  obtain ⟨W0, hW0⟩ : ∃ W0, w.alloc (.cells #[.int .i64 0, .slice none 0 0, .slice none 0 0] 25) = W0 := ⟨_, rfl⟩
  obtain ⟨W2, hW2⟩ : ∃ W2, W0.alloc (.cells #[.int .i64 0, .slice none 0 0, .slice none 0 0] 25) = W2 := ⟨_, rfl⟩
  have hr : Blk W2 w.heap.size 25 #[.int .i64 0, .slice none 0 0, .slice none 0 0] := by rw [← hW2, ← hW0]; exact (Blk.new w _ _).alloc _
  have HB2 := Lib.hid (show Below w.heap.size w W2 by rw [← hW2, ← hW0]; exact to_ (alloc_ _ _) (alloc_ _ _))
  have HR := Lib.hid hr
  have HW2 := Lib.hid hW2
  clear hr hW2
  go_enter Tryd.func18, Tryd.ntmps18
  go_wp2_with fail
  refine (HN.out _).mono ?_
  rintro e w1 ⟨rfl, rfl⟩
  go_wp2_with fail
  rw [HW2.out]
  clear hW0
  obtain ⟨r0, r1, r2⟩ := blk_ce3 HR.out
  obtain ⟨f0, f1, f2⟩ := blk_fr3 HR.out
  refine (HN.out _).mono ?_
  rintro e w1 ⟨rfl, rfl⟩
  go_wp2_with fail
  go_loopw [12] (fun i wr => i = .int .i64 0 ∧ wr = W2) (fun _ _ => 0)
  case atStart => exact ⟨rfl, rfl⟩
  case round =>
    obtain ⟨rfl, rfl⟩ := hrel
    go_wp2_with (go_at_call 38; go_loud (refine (HN.out _).mono ?_; rintro e w1 ⟨rfl, rfl⟩))
    obtain ⟨wz, hwz⟩ : ∃ wz, wz = wr := ⟨_, rfl⟩
    subst hwz
    go_loopw [24] (fun i wy => i = .int .i64 0 ∧ wy = wz) (fun _ _ => 0)
    case atStart => exact ⟨rfl, rfl⟩
    case round =>
      obtain ⟨rfl, rfl⟩ := hrel
      go_wp2_with (go_at_call 41; go_loud (refine (HB.out _).mono ?_; rintro e w1 ⟨rfl, rfl⟩))
      have HP := Lib.hid (blk_put3 HR.out (.int .i64 0) (.slice none 0 0) (.slice none 0 0))
      obtain ⟨z0, z1, z2⟩ := blk_ce3 HP.out
      refine bodyPost_ret (v := .tuple #[.agg #[.int .i64 0, .slice none 0 0, .slice none 0 0], .int .i64 5]) (by simp [results, Tryd.results18, go_sem, z0, z1, z2]) rfl ⟨rfl, ?_⟩
      exact below_put3 HB2.out _ (Nat.le_refl _) _ _ _
end Go.Proofs.YthkbdclnnpcoiaaDoor.By
