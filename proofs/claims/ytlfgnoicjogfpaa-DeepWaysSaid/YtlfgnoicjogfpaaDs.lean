/-
  WALK: known of layer 12's laws: it answers true.
-/
import Derived.Test.YtlfgnoicjogfpaaDp
namespace Go.Proofs.Ytlfgnoicjogfpaa.By
open Go.RowKit
open Mem Gm Rf Dp

theorem built_1 (w : World) (l0 : List Int) (n0 : Nat) (t0 u : TypeId) (h0 : l0.length = n0) (m0 : n0 ≤ 1000) :
    GW (((w.alloc (.cells (ints l0).toArray t0)).alloc (.cells #[.slice (some ⟨w.heap.size, 0, none⟩) n0 n0] u)).alloc (.cells #[.bool true] 4)) (.slice (some ⟨w.heap.size + 1, 0, none⟩) 1 1) [l0] := by
  have hb := Blk.new (w.alloc (.cells (ints l0).toArray t0)) u #[.slice (some ⟨w.heap.size, 0, none⟩) n0 n0]
  rw [size_alloc] at hb
  refine GW.one (hb.alloc _) ⟨_, _, by rw [h0]⟩ ?_
  exact IW.lit l0 n0 (((Blk.new w t0 _).alloc _).alloc _) (by simp) h0 m0
theorem built_a00 (w : World) (l0 : List Int) (n0 : Nat) (t0 u : TypeId) (h0 : l0.length = n0) (m0 : n0 ≤ 1000) :
    GW ((w.alloc (.cells (ints l0).toArray t0)).alloc (.cells #[.slice (some ⟨w.heap.size, 0, none⟩) n0 n0, .slice none 0 0, .slice none 0 0] u)) (.slice (some ⟨w.heap.size + 1, 0, none⟩) 3 3) [l0, [], []] := by
  have hb := Blk.new (w.alloc (.cells (ints l0).toArray t0)) u #[.slice (some ⟨w.heap.size, 0, none⟩) n0 n0, .slice none 0 0, .slice none 0 0]
  rw [size_alloc] at hb
  refine GW.three hb ⟨_, _, by rw [h0]⟩ ⟨_, _, rfl⟩ ⟨_, _, rfl⟩ ?_ (IW.emp _) (IW.emp _)
  exact IW.lit l0 n0 ((Blk.new w t0 _).alloc _) (by simp) h0 m0

theorem ld1 : depV [[1, 2], [], []] [true, true] [3, 4] 1 1 = some [8, 4, 1] := by decide +kernel
theorem ld2 : depV [[0]] [true] [] 0 0 = none := by decide +kernel
theorem ld3 : worI [[1, 2], [], []] [true, true] [3, 4] 1 1 0 = [0, 1] := by decide +kernel
theorem fd1 : Fits [[1, 2], [], []] 24 30 := by unfold Fits; decide +kernel
theorem fd2 : Fits [[0]] 24 30 := by unfold Fits; decide +kernel
section
variable (w : World) (A A2 A3 : Option Addr) (c c2 c3 : Nat)
theorem lit_depths (h : GW w (.slice A 3 c) [[1, 2], [], []]) (hI : LW w (.slice A2 2 c2) [true, true]) (hO : IW w (.slice A3 2 c3) [3, 4]) : Calls Try.prog 27 #[.slice A 3 c, .slice A2 2 c2, .slice A3 2 c3, .int .i64 1, .int .i64 1] w (OAns 3 [8, 4, 1] true w) := by
  have := depths_w w A A2 A3 c c2 c3 3 2 2 3 [[1, 2], [], []] [true, true] [3, 4] 1 1 rfl rfl rfl (by rw [ld1]; rfl) h hI hO fd1
  rw [ld1] at this; exact this
theorem lit_depths2 (h : GW w (.slice A 1 c) [[0]]) (hI : LW w (.slice A2 1 c2) [true]) : Calls Try.prog 27 #[.slice A 1 c, .slice A2 1 c2, .slice none 0 0, .int .i64 0, .int .i64 0] w (OAns 0 [] false w) := by
  have := depths_w w A A2 none c c2 0 1 1 0 0 [[0]] [true] [] 0 0 rfl rfl rfl (by rw [ld2]; rfl) h hI .nil fd2
  rw [ld2] at this; exact this
theorem lit_worst (h : GW w (.slice A 3 c) [[1, 2], [], []]) (hI : LW w (.slice A2 2 c2) [true, true]) (hO : IW w (.slice A3 2 c3) [3, 4]) : Calls Try.prog 29 #[.slice A 3 c, .slice A2 2 c2, .slice A3 2 c3, .int .i64 1, .int .i64 1, .int .i64 0] w (IAns 2 [0, 1] w) := by
  have := worst_any w A A2 A3 c c2 c3 3 2 2 2 [[1, 2], [], []] [true, true] [3, 4] 1 1 0 rfl rfl rfl (by rw [ld3]; rfl) h hI hO fd1
  rw [ld3] at this; exact this
end

set_option maxHeartbeats 2000000 in
set_option maxRecDepth 100000 in
theorem known12_any (w : World) : Calls Try.prog 26 #[] w (TAns w) := by
  obtain ⟨w0, hw0⟩ : ∃ w0, (w.alloc (.cells #[.int .i64 1, .int .i64 2] 3)).alloc (.cells #[.slice (some ⟨w.heap.size, 0, none⟩) 2 2, .slice none 0 0, .slice none 0 0] 26) = w0 := ⟨_, rfl⟩
  have RG := Lib.hid (show GW w0 (.slice (some ⟨w.heap.size + 1, 0, none⟩) 3 3) [[1, 2], [], []] from by rw [← hw0]; exact built_a00 w [1, 2] 2 3 26 rfl (by decide))
  have HA := Lib.hid (show Below w.heap.size w w0 from by rw [← hw0]; exact alloc2_ _ _ _)
  go_enter Try.func26, Try.ntmps26
  go_wp2_with fail
  refine (lit_depths _ _ _ _ _ _ _ (RG.out.on (alloc2_ _ _ _)) (LW.built [true, true] ((Blk.new w0 4 _).alloc _) rfl 2 rfl (by decide)) (IW.lit [3, 4] 2 (by have := Blk.new (w0.alloc (.cells #[.bool true, .bool true] 4)) 3 #[.int .i64 3, .int .i64 4]; rw [size_alloc] at this; exact this) rfl rfl (by decide))).mono ?_
  rintro e w1 ⟨A1, c1, rfl, h1, b1⟩
  have Rd1 := Lib.hid (h1)
  have Rg1 := Lib.hid ((RG.out.on (alloc2_ _ _ _)).on b1)
  have HB1 := Lib.hid (to_ (to_ HA.out (alloc2_ _ _ _)) b1)
  clear b1 h1 RG HA
  go_wp2_with fail
  refine (lit_depths2 _ _ _ _ _ (built_1 w1 [0] 1 3 26 rfl (by decide)) (LW.built [true] (by have := Blk.new ((w1.alloc (.cells #[.int .i64 0] 3)).alloc (.cells #[.slice (some ⟨w1.heap.size, 0, none⟩) 1 1] 26)) 4 #[.bool true]; rw [size_alloc, size_alloc] at this; exact this) rfl 1 rfl (by decide))).mono ?_
  rintro e w2 ⟨A2, c2, rfl, -, b2⟩
  have Rd2 := Lib.hid ((Rd1.out.on (alloc3_ _ _ _ _)).on b2)
  have Rg2 := Lib.hid ((Rg1.out.on (alloc3_ _ _ _ _)).on b2)
  have HB2 := Lib.hid (to_ (to_ HB1.out (alloc3_ _ _ _ _)) b2)
  clear b2 Rd1 Rg1 HB1
  go_wp2_with fail
  refine (ints_w _ _ _ _ _ 3 [8, 4, 1] rfl (Rd2.out.on (alloc_ _ _)) (IW.lit [8, 4, 1] 3 (Blk.new w2 3 _) rfl rfl (by decide)) (by decide)).mono ?_
  rintro e w3 ⟨rfl, b3⟩
  have Rg3 := Lib.hid ((Rg2.out.on (alloc_ _ _)).on b3)
  have HB3 := Lib.hid (to_ (to_ HB2.out (alloc_ _ _)) b3)
  clear b3 Rd2 Rg2 HB2
  go_wp2_with fail
  refine (lit_worst _ _ _ _ _ _ _ (Rg3.out.on (alloc2_ _ _ _)) (LW.built [true, true] ((Blk.new w3 4 _).alloc _) rfl 2 rfl (by decide)) (IW.lit [3, 4] 2 (by have := Blk.new (w3.alloc (.cells #[.bool true, .bool true] 4)) 3 #[.int .i64 3, .int .i64 4]; rw [size_alloc] at this; exact this) rfl rfl (by decide))).mono ?_
  rintro e w4 ⟨A4, c4, rfl, h4, b4⟩
  have Ro4 := Lib.hid (h4)
  have HB4 := Lib.hid (to_ (to_ HB3.out (alloc2_ _ _ _)) b4)
  clear b4 h4 Rg3 HB3
  go_wp2_with fail
  refine (ints_w _ _ _ _ _ 2 [0, 1] rfl (Ro4.out.on (alloc_ _ _)) (IW.lit [0, 1] 2 (Blk.new w4 3 _) rfl rfl (by decide)) (by decide)).mono ?_
  rintro e w5 ⟨rfl, b5⟩
  have Ro5 := Lib.hid ((Ro4.out.on (alloc_ _ _)).on b5)
  have HB5 := Lib.hid (to_ (to_ HB4.out (alloc_ _ _)) b5)
  clear b5 Ro4 HB4
  go_wp2_with fail
  go_ret
  exact ⟨rfl, HB5.out⟩
end Go.Proofs.Ytlfgnoicjogfpaa.By
