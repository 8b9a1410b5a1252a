/-
  WALK: known of layer 13's laws: it answers true.
-/
import Derived.Test.YtckpbdphilifoaaWi
import Derived.Test.YtckpbdphilifoaaWm
namespace Go.Proofs.Ytckpbdphilifoaa.By
open Go.RowKit
open Mem Gm Rf
set_option linter.unusedSimpArgs false

def TAns (w : World) (e : Ending) (w' : World) : Prop := e = .returned (.bool true) ∧ Below w.heap.size w w'
def UW (w : World) (v : Value) (l : List UInt8) : Prop := SlV w w.heap.size v (u8s l)
theorem UW.on {w w' : World} {v : Value} {l : List UInt8} (h : UW w v l) (hb : Below w.heap.size w w') : UW w' v l := (SlV.below h hb).more hb.size
/-- A row, boxed. -/
def B4 (w : World) (p : Nat) (x : Ro) : Prop := p < w.heap.size ∧ w.cell? ⟨p, 0, none⟩ = some (.int .i64 x.1) ∧ w.cell? ⟨p, 1, none⟩ = some (.int .i64 x.2.1) ∧ w.cell? ⟨p, 2, none⟩ = some (.bool x.2.2.1) ∧ w.cell? ⟨p, 3, none⟩ = some (.int .i64 x.2.2.2)
theorem B4.new (w : World) (x : Ro) (t : TypeId) : B4 (w.alloc (.cells #[.int .i64 x.1, .int .i64 x.2.1, .bool x.2.2.1, .int .i64 x.2.2.2] t)) w.heap.size x :=
  ⟨(Blk.new w t _).lt, ((Blk.new w t _).cell 0).trans rfl, ((Blk.new w t _).cell 1).trans rfl, ((Blk.new w t _).cell 2).trans rfl, ((Blk.new w t _).cell 3).trans rfl⟩
theorem B4.on {w w' : World} {p : Nat} {x : Ro} (h : B4 w p x) (b : Below w.heap.size w w') : B4 w' p x :=
  ⟨Nat.lt_of_lt_of_le h.1 b.size, (b.cell h.1).trans h.2.1, (b.cell h.1).trans h.2.2.1, (b.cell h.1).trans h.2.2.2.1, (b.cell h.1).trans h.2.2.2.2⟩

def kX : Ro := (1, 4, false, 0)
def kY : Ro := (2, 0, true, 9)
def kR : List Ro := [kX, kX, kY]
def kL : List Rn := [(0, kX), (2, kY)]

theorem kRows (w : World) (t : TypeId) : RoL (w.alloc (.cells #[.int .i64 1, .int .i64 4, .bool false, .int .i64 0, .int .i64 1, .int .i64 4, .bool false, .int .i64 0, .int .i64 2, .int .i64 0, .bool true, .int .i64 9] t)) (some ⟨w.heap.size, 0, none⟩) 3 3 kR := by
  refine ⟨rfl, Nat.le_refl _, by unfold maxLen; omega, fun e => by simp at e, fun i x hi => ⟨_, rfl, by simp, fun j u hu => ?_⟩⟩
  have h3 : i < 3 := (List.getElem?_eq_some_iff.1 hi).1
  have h4 : j < 4 := (List.getElem?_eq_some_iff.1 hu).1
  rw [add_plain, add_plain, Nat.zero_add, (Blk.new w t #[.int .i64 1, .int .i64 4, .bool false, .int .i64 0, .int .i64 1, .int .i64 4, .bool false, .int .i64 0, .int .i64 2, .int .i64 0, .bool true, .int .i64 9]).cell]
  match i, h3, j, h4 with
  | 0, _, 0, _ => cases hi; exact hu
  | 0, _, 1, _ => cases hi; exact hu
  | 0, _, 2, _ => cases hi; exact hu
  | 0, _, 3, _ => cases hi; exact hu
  | 1, _, 0, _ => cases hi; exact hu
  | 1, _, 1, _ => cases hi; exact hu
  | 1, _, 2, _ => cases hi; exact hu
  | 1, _, 3, _ => cases hi; exact hu
  | 2, _, 0, _ => cases hi; exact hu
  | 2, _, 1, _ => cases hi; exact hu
  | 2, _, 2, _ => cases hi; exact hu
  | 2, _, 3, _ => cases hi; exact hu

theorem kmk : mkT kR 3 = kL := by decide +kernel
theorem kr1 : rowV kL 1 = kX := by decide +kernel
theorem kh1 : hasV kL 1 = true := by decide +kernel
theorem kr2 : rowV kL (-1) = ro0 := by decide +kernel
theorem kh2 : hasV kL (-1) = false := by decide +kernel
theorem kw3 : WIn kL 2 3 := by unfold WIn; decide +kernel
theorem kw2 : ¬ WIn kL 2 2 := by unfold WIn; decide +kernel
theorem ktw : ¬ Tw kL 2 := by unfold Tw; decide +kernel
theorem kc3 : chkR kL 2 3 = 0 := chkR_ok (by decide) kw3 ktw
theorem kc2 : chkR kL 2 2 = 9 := chkR_range (by decide) kw2
theorem kgt : gets (tabB kL 2) (rvS (tabB kL 2) (0, true) 2).toNat (pgS (tabB kL 2) (0, true) 2) = (kL, 0, (20, true)) := by decide +kernel

section
variable (w : World) (A A2 : Option Addr) (c c2 : Nat)
theorem k_make (h : RoL w A 3 c kR) : Calls Try.prog 9 #[.slice A 3 c] w (MAns w 2 kL) := by
  have := make_any w A 3 c kR h (by decide)
  rw [kmk] at this; exact this
theorem k_at1 (h : RnL w A 2 c kL) : Calls Try.prog 16 #[.slice A 2 c, .int .i64 1] w fun e w' => e = .returned (.tuple #[.agg #[.int .i64 1, .int .i64 4, .bool false, .int .i64 0], .bool true]) ∧ Below w.heap.size w w' := by
  have := runAt_any w 1 A 2 c kL h
  unfold AtAns at this
  rw [kr1, kh1] at this; exact this
theorem k_at2 (h : RnL w A 2 c kL) : Calls Try.prog 16 #[.slice A 2 c, .int .i64 (-1)] w fun e w' => e = .returned (.tuple #[.agg #[.int .i64 0, .int .i64 0, .bool false, .int .i64 0], .bool false]) ∧ Below w.heap.size w w' := by
  have := runAt_any w (-1) A 2 c kL h
  unfold AtAns at this
  rw [kr2, kh2] at this; exact this
theorem k_put (h : RnL w A 2 c kL) : Calls Try.prog 19 #[.slice none 0 0, .slice A 2 c] w fun e w' => ∃ v, e = .returned v ∧ UW w' v (tabB kL 2) ∧ Below w.heap.size w w' := by
  refine (putRuns_any w A none 2 c 0 0 kL [] h (by decide) rfl .nil (by decide)).mono fun e w' hh => ?_
  obtain ⟨v, h1, h2, h3⟩ := hh
  exact ⟨v, h1, SlV.of_own h2, h3⟩
theorem B4.kx {w : World} {p : Nat} (h : B4 w p kX) : w.cell? ⟨p, 0, none⟩ = some (.int .i64 1) ∧ w.cell? ⟨p, 1, none⟩ = some (.int .i64 4) ∧ w.cell? ⟨p, 2, none⟩ = some (.bool false) ∧ w.cell? ⟨p, 3, none⟩ = some (.int .i64 0) := h.2
theorem k_get (g : Nat) (h : RdS w g A c (tabB kL 2) (0, true)) : Calls Try.prog 22 #[.pointer (some ⟨g, 0, none⟩)] w fun e w' => ∃ A2 c2, e = .returned (.tuple #[.slice A2 2 c2, .int .i64 0]) ∧ RnL w' A2 2 c2 kL ∧ w.grownBy w' (some g) := by
  have := getRuns_any w g A c (tabB kL 2) (0, true) h
  rw [kgt] at this
  refine this.mono fun e w' hh => ?_
  obtain ⟨A2, c2, h1, h2, _, h4⟩ := hh
  exact ⟨A2, c2, h1, h2, h4⟩
theorem k_check3 (h : RnL w A 2 c kL) : Calls Try.prog 12 #[.slice A 2 c, .int .i64 3] w (CAns w 0) := by
  have := check_any w A 2 c kL 3 h
  rw [kc3] at this; exact this
theorem k_check2 (h : RnL w A 2 c kL) : Calls Try.prog 12 #[.slice A 2 c, .int .i64 2] w (CAns w 9) := by
  have := check_any w A 2 c kL 2 h
  rw [kc2] at this; exact this
theorem k_rows (h : RnL w A 2 c kL) : Calls Try.prog 14 #[.slice A 2 c, .int .i64 3] w fun e w' => ∃ A c, e = .returned (.slice A 3 c) ∧ Below w.heap.size w w' := by
  refine (rows_any w A 2 c kL 3 h).mono fun e w' hh => ?_
  obtain ⟨A', c', h1, _, h3⟩ := hh
  exact ⟨A', c', h1, h3⟩
theorem k_same (h : RnL w A 2 c kL) (h2 : RnL w A2 2 c2 kL) : Calls Try.prog 10 #[.slice A 2 c, .slice A2 2 c2] w (TAns w) := same_any w A A2 2 c c2 kL h h2
end

set_option maxHeartbeats 4000000 in
set_option maxRecDepth 100000 in
theorem known13_any (w : World) : Calls Try.prog 8 #[] w (TAns w) := by
  obtain ⟨w0, hw0⟩ : ∃ w0, ((w.alloc (.cells #[.int .i64 1, .int .i64 4, .bool false, .int .i64 0] 33)).alloc (.cells #[.int .i64 2, .int .i64 0, .bool true, .int .i64 9] 33)).alloc (.cells #[.int .i64 1, .int .i64 4, .bool false, .int .i64 0, .int .i64 1, .int .i64 4, .bool false, .int .i64 0, .int .i64 2, .int .i64 0, .bool true, .int .i64 9] 33) = w0 := ⟨_, rfl⟩
  have RR := Lib.hid (show RoL w0 (some ⟨w.heap.size + 2, 0, none⟩) 3 3 kR from by rw [← hw0]; have := kRows ((w.alloc (.cells #[.int .i64 1, .int .i64 4, .bool false, .int .i64 0] 33)).alloc (.cells #[.int .i64 2, .int .i64 0, .bool true, .int .i64 9] 33)) 33; rw [World.size_alloc, World.size_alloc] at this; exact this)
  have RX := Lib.hid (show B4 w0 w.heap.size kX from by rw [← hw0]; exact ((B4.new w kX 33).on (alloc_ _ _)).on (alloc_ _ _))
  have HA := Lib.hid (show Below w.heap.size w w0 from by rw [← hw0]; exact to_ (to_ (alloc_ _ _) (alloc_ _ _)) (alloc_ _ _))
  go_enter Try.func8, Try.ntmps8
  go_wp2_with fail
  refine (k_make _ _ _ RR.out).mono ?_
  rintro e w1 ⟨A1, c1, rfl, h1, b1⟩
  have Rl1 := Lib.hid (h1)
  have Rx1 := Lib.hid (RX.out.on b1)
  have HB1 := Lib.hid (to_ HA.out b1)
  clear b1 h1 RR RX HA
  go_wp2_with fail
  refine (k_at1 _ _ _ Rl1.out).mono ?_
  rintro e w2 ⟨rfl, b2⟩
  have Rl2 := Lib.hid (Rl1.out.on b2)
  have Rx2 := Lib.hid (Rx1.out.on b2)
  have HB2 := Lib.hid (to_ HB1.out b2)
  clear b2 Rl1 Rx1 HB1
  go_wp2_with fail
  refine (k_at2 _ _ _ (Rl2.out.on (alloc_ _ _))).mono ?_
  rintro e w3 ⟨rfl, b3⟩
  have Ry3 := Lib.hid ((B4.new w2 kX _).on b3)
  have Rl3 := Lib.hid ((Rl2.out.on (alloc_ _ _)).on b3)
  have Rx3 := Lib.hid ((Rx2.out.on (alloc_ _ _)).on b3)
  have HB3 := Lib.hid (to_ (to_ HB2.out (alloc_ _ _)) b3)
  clear b3 Rl2 Rx2 HB2
  go_wp2_with fail
  refine (k_put _ _ _ (Rl3.out.on (alloc_ _ _))).mono ?_
  rintro e w4 ⟨v4, rfl, h4, b4⟩
  have Ru4 := Lib.hid (h4)
  have Ry4 := Lib.hid ((Ry3.out.on (alloc_ _ _)).on b4)
  have Rl4 := Lib.hid ((Rl3.out.on (alloc_ _ _)).on b4)
  have Rx4 := Lib.hid ((Rx3.out.on (alloc_ _ _)).on b4)
  have HB4 := Lib.hid (to_ (to_ HB3.out (alloc_ _ _)) b4)
  clear b4 h4 Ry3 Rl3 Rx3 HB3
  go_wp2_with fail
  refine (new_any _ _ w4 w4.heap.size Ru4.out (by decide)).mono ?_
  rintro e w5 ⟨g5, A5, c5, rfl, hg5, hr5, b5⟩
  have HR5 := Lib.hid (show RdS w5 g5 A5 c5 (tabB kL 2) (0, true) from hr5)
  have HG5 := Lib.hid hg5
  have HB5 := Lib.hid b5
  clear hr5 hg5 b5
  go_wp2_with fail
  refine (k_get _ _ _ _ HR5.out).mono ?_
  rintro e w6 ⟨A6, c6, rfl, h6, g6⟩
  have b6 : Below w4.heap.size w4 w6 := below_of_only HB5.out g6 HB5.out.size HG5.out
  have Rk6 := Lib.hid h6
  have Rl6 := Lib.hid (Rl4.out.on b6)
  have Rx6 := Lib.hid (Rx4.out.on b6)
  have Ry6 := Lib.hid (Ry4.out.on b6)
  have HB6 := Lib.hid (to_ HB4.out b6)
  obtain ⟨x0, x1, x2, x3⟩ := Rx6.out.kx
  obtain ⟨y0, y1, y2, y3⟩ := Ry6.out.kx
  obtain ⟨ad, rfl, _, c0, _⟩ := Rl6.out.at_ (show 1 < 2 by decide)
  have c0 : w6.cell? (ad.add 5) = some (.int .i64 2) := c0
  rw [add_field ad 5 (by decide)] at c0
  clear h6 g6 b6 HB4 Rl4 Rx4 Ry4 Ru4
  go_wp2_with fail
  refine (k_check3 _ _ _ Rl6.out).mono ?_
  rintro e w7 ⟨rfl, b7⟩
  have Rk7 := Lib.hid (Rk6.out.on b7)
  have Rl7 := Lib.hid (Rl6.out.on b7)
  have HB7 := Lib.hid (to_ HB6.out b7)
  clear b7 Rk6 Rl6 HB6
  go_wp2_with fail
  refine (k_check2 _ _ _ Rl7.out).mono ?_
  rintro e w8 ⟨rfl, b8⟩
  have Rk8 := Lib.hid (Rk7.out.on b8)
  have Rl8 := Lib.hid (Rl7.out.on b8)
  have HB8 := Lib.hid (to_ HB7.out b8)
  clear b8 Rk7 Rl7 HB7
  go_wp2_with fail
  refine (k_same _ _ _ _ _ Rk8.out Rl8.out).mono ?_
  rintro e w9 ⟨rfl, b9⟩
  have Rl9 := Lib.hid (Rl8.out.on b9)
  have HB9 := Lib.hid (to_ HB8.out b9)
  clear b9 Rk8 Rl8 HB8
  go_wp2_with fail
  refine (k_rows _ _ _ Rl9.out).mono ?_
  rintro e w10 ⟨A10, c10, rfl, b10⟩
  have HB10 := Lib.hid (to_ HB9.out b10)
  clear b10 Rl9 HB9
  go_wp2_with fail
  go_ret
  exact ⟨rfl, HB10.out⟩
end Go.Proofs.Ytckpbdphilifoaa.By
