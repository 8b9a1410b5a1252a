/-
  WALK of layer 9's laws: known.
-/
import Derived.Test.YtnplhpbbdgnmiaaDoorMg
namespace Go.Proofs.YtnplhpbbdgnmiaaDoor.Ln
open Go.RowKit
open Mem Go.Lib

/-- What lies in the world that the calls lean on. -/
structure Wl (w : World) : Prop where
  mx : Mx w
  er : Er w
  tb : Tb w
  bt : By.Txs w
  st : Si.Txs w
theorem Wl.below {w w' : World} (h : Wl w) (hb : Below w.heap.size w w') : Wl w' := ⟨h.mx.below hb, h.er.below hb, h.tb.below hb, h.bt.below hb, h.st.below hb⟩

theorem kpar_via (w : World) (h : Wl w) : Calls Tryd.prog 8 #[.string viaL2] w fun e w' => e = .returned (.tuple #[.agg #[.int .i64 20, .int .i64 3, .int .i64 1, .int .i64 5, .int .i64 0], .int .i64 0]) ∧ Below w.heap.size w w' := by
  have := parse_any viaL2 w (by decide) h.er h.tb h.bt h.st
  unfold ParAns at this
  rwa [par_via] at this
theorem kpar_set (w : World) (h : Wl w) : Calls Tryd.prog 8 #[.string setL] w fun e w' => e = .returned (.tuple #[.agg #[.int .i64 0, .int .i64 0, .int .i64 0, .int .i64 0, .int .i64 0], .int .i64 3]) ∧ Below w.heap.size w w' := by
  have := parse_any setL w (by decide) h.er h.tb h.bt h.st
  unfold ParAns at this
  rwa [par_set] at this
theorem ktxt_via (w : World) (h : Wl w) : Calls Tryd.prog 6 #[.agg #[.int .i64 20, .int .i64 3, .int .i64 1, .int .i64 5, .int .i64 0]] w fun e w' => e = .returned (.tuple #[.string viaL, .int .i64 0]) ∧ Below w.heap.size w w' := by
  have := text_any 20 3 1 5 0 ⟨by decide, by decide⟩ ⟨by decide, by decide⟩ ⟨by decide, by decide⟩ ⟨by decide, by decide⟩ w h.tb h.bt h.st
  unfold XAns at this
  rwa [txt_via] at this
theorem knum (w : World) (h : Wl w) : Calls Tryd.prog 9 #[.string ⟨#[45, 49, 50]⟩] w fun e w' => e = .returned (.tuple #[.int .i64 (-12), .bool true]) ∧ Below w.heap.size w w' := by
  have := number_any ⟨#[45, 49, 50]⟩ w (by decide) h.er h.tb
  unfold NAns at this
  rwa [num_12] at this
theorem kspl (w : World) (h : Wl w) : Calls Tryd.prog 14 #[.string ⟨#[97, 10, 10, 98]⟩] w fun e w' => ∃ A c, e = .returned (.slice A 3 c) ∧ Below w.heap.size w w' := by
  refine (split_any ⟨#[97, 10, 10, 98]⟩ w (by decide) h.mx).mono ?_
  rintro e w' ⟨A, c, rfl, _, hb⟩
  rw [lines_3]
  exact ⟨A, c, rfl, hb⟩
theorem kwor (w : World) : Calls Tryd.prog 7 #[.string ⟨#[32, 97, 32, 32, 98]⟩] w fun e w' => ∃ A c, e = .returned (.slice A 2 c) ∧ Below w.heap.size w w' := by
  refine (words_any ⟨#[32, 97, 32, 32, 98]⟩ w (by decide)).mono ?_
  rintro e w' ⟨A, c, rfl, _, hb⟩
  rw [words_2]
  exact ⟨A, c, rfl, hb⟩
theorem kjoi (w : World) (A : Option Addr) (c : Nat) (h : SlV w w.heap.size (.slice A 2 c) (strs [⟨#[97]⟩, ⟨#[98]⟩])) : Calls Tryd.prog 13 #[.slice A 2 c] w fun e w' => e = .returned (.string ⟨#[97, 32, 98]⟩) ∧ Below w.heap.size w w' := by
  have := join_any A c 2 [⟨#[97]⟩, ⟨#[98]⟩] w rfl h ⟨by decide, by intro x hx; simp at hx; rcases hx with rfl | rfl <;> decide⟩
  rwa [join_ab] at this
theorem kdec (w : World) (h : Wl w) : Calls Tryd.prog 10 #[.int .i64 (-5)] w fun e w' => e = .returned (.string ⟨#[45, 53]⟩) ∧ Below w.heap.size w w' := by
  have := decimal_any (-5) (by decide) (by decide) w h.tb
  rwa [d5] at this

set_option maxRecDepth 100000 in
set_option maxHeartbeats 4000000 in
theorem known_any (w : World) (h : Wl w) : Calls Tryd.prog 5 #[] w (TrueAns w) := by
  have H1 := Lib.hid kpar_via
  have H2 := Lib.hid ktxt_via
  have H3 := Lib.hid kpar_set
  have H4 := Lib.hid knum
  unfold viaL2 at H1
  unfold viaL at H2
  unfold setL at H3
  have HW := Lib.hid h
  clear h
  go_enter Tryd.func5, Tryd.ntmps5
  go_wp2_with fail
  refine (H1.out _ HW.out).mono ?_
  rintro e w1 ⟨rfl, hb1⟩
  have B1 := Lib.hid hb1
  clear hb1
  go_wp2_with fail
  have X1 := Lib.hid (Blk.new w1 23 #[.int .i64 20, .int .i64 3, .int .i64 1, .int .i64 5, .int .i64 0])
  have B1' := Lib.hid (B1.out.alloc B1.out.size (.cells #[.int .i64 20, .int .i64 3, .int .i64 1, .int .i64 5, .int .i64 0] 23))
  refine (H2.out _ (HW.out.below B1'.out)).mono ?_
  rintro e w2 ⟨rfl, hb⟩
  have X2 := Lib.hid (X1.out.below hb (by simp))
  have B2 := Lib.hid (B1'.out.trans (hb.mono B1'.out.size))
  clear hb X1 B1 B1'
  go_wp2_with fail
  refine (H3.out _ (HW.out.below B2.out)).mono ?_
  rintro e w3 ⟨rfl, hb⟩
  have X3 := Lib.hid (X2.out.below hb X2.out.lt)
  have B3 := Lib.hid (B2.out.trans (hb.mono B2.out.size))
  clear hb X2 B2
  go_wp2_with fail
  have X3' := Lib.hid (X3.out.alloc (.cells #[.int .i64 0, .int .i64 0, .int .i64 0, .int .i64 0, .int .i64 0] 23))
  have B3' := Lib.hid (B3.out.alloc B3.out.size (.cells #[.int .i64 0, .int .i64 0, .int .i64 0, .int .i64 0, .int .i64 0] 23))
  refine (H4.out _ (HW.out.below B3'.out)).mono ?_
  rintro e w4 ⟨rfl, hb⟩
  have X4 := Lib.hid (X3'.out.below hb X3'.out.lt)
  have B4 := Lib.hid (B3'.out.trans (hb.mono B3'.out.size))
  clear hb X3 B3 X3' B3' H1 H2 H3 H4
  have k0 : w4.cell? ⟨w1.heap.size, 0, none⟩ = some (.int .i64 20) := by rw [X4.out.cell]; rfl
  have k1 : w4.cell? ⟨w1.heap.size, 1, none⟩ = some (.int .i64 3) := by rw [X4.out.cell]; rfl
  have k2 : w4.cell? ⟨w1.heap.size, 2, none⟩ = some (.int .i64 1) := by rw [X4.out.cell]; rfl
  have k3 : w4.cell? ⟨w1.heap.size, 3, none⟩ = some (.int .i64 5) := by rw [X4.out.cell]; rfl
  have k4 : w4.cell? ⟨w1.heap.size, 4, none⟩ = some (.int .i64 0) := by rw [X4.out.cell]; rfl
  have hlx : w1.heap.size < w4.heap.size := X4.out.lt
  have HS := Lib.hid (kspl w4 (HW.out.below B4.out))
  go_wp2_with fail
  refine HS.out.mono ?_
  rintro e w5 ⟨A5, c5, rfl, hb⟩
  have B5 := Lib.hid (B4.out.trans (hb.mono B4.out.size))
  clear hb k0 k1 k2 k3 k4 hlx X4 B4 HS
  have HO := Lib.hid (kwor w5)
  go_wp2_with fail
  refine HO.out.mono ?_
  rintro e w6 ⟨A6, c6, rfl, hb⟩
  have B6 := Lib.hid (B5.out.trans (hb.mono B5.out.size))
  clear hb B5 HO
  have HJ := Lib.hid (kjoi (w6.alloc (.cells #[.string ⟨#[97]⟩, .string ⟨#[98]⟩] 9)) (some ⟨w6.heap.size, 0, none⟩) 2 (by have h := SlV.new w6 (strs [⟨#[97]⟩, ⟨#[98]⟩]) 9 (by simp [strs]; unfold maxLen; omega); exact h.more (by simp)))
  have B6' := Lib.hid (B6.out.alloc B6.out.size (.cells #[.string ⟨#[97]⟩, .string ⟨#[98]⟩] 9))
  go_wp2_with fail
  refine HJ.out.mono ?_
  rintro e w7 ⟨rfl, hb⟩
  have B7 := Lib.hid (B6'.out.trans (hb.mono B6'.out.size))
  clear hb B6 B6' HJ
  have HD := Lib.hid (kdec w7 (HW.out.below B7.out))
  go_wp2_with fail
  refine HD.out.mono ?_
  rintro e w8 ⟨rfl, hb⟩
  have B8 := Lib.hid (B7.out.trans (hb.mono B7.out.size))
  clear hb B7 HD
  go_wp2_with fail
  go_ret
  exact ⟨rfl, B8.out⟩
end Go.Proofs.YtnplhpbbdgnmiaaDoor.Ln
