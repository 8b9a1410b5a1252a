/-
  WALK: known of layer 2's laws (function 20): it answers true; what was there stays.
-/
import Derived.Test.YtlpmndljjdljmaaRt
import Derived.Test.YtlpmndljjdljmaaRp
namespace Go.Proofs.Ytlpmndljjdljmaa.By
open Go.ChangeShapes Go.WideShapes Go.ChangeAt Go.RowKit
open Mem

theorem k_num (p : Nat) (h : p = 0) : readV false [0, 1, 2, 1, 65] p true 3 = 258 ∧ readP [0, 1, 2, 1, 65] p true 3 = 3 ∧ fitsB [0, 1, 2, 1, 65] p true 3 = true := by
  subst h; refine ⟨by decide +kernel, by decide +kernel, by decide +kernel⟩
theorem k_text : textV [0, 1, 2, 1, 65] 3 true 9 = [65] ∧ textP [0, 1, 2, 1, 65] 3 true 9 = 5 ∧ fitsT [0, 1, 2, 1, 65] 3 true 9 = true := by
  refine ⟨by decide +kernel, by decide +kernel, by decide +kernel⟩
theorem k_end : readV false [0, 1, 2, 1, 65] 5 true 1 = 0 ∧ readP [0, 1, 2, 1, 65] 5 true 1 = 5 ∧ fitsB [0, 1, 2, 1, 65] 5 true 1 = false := by
  refine ⟨by decide +kernel, by decide +kernel, by decide +kernel⟩

set_option maxHeartbeats 1000000 in
theorem known_any (w : World) : Calls Try.prog 7 #[] w fun e w' => e = .returned (.bool true) ∧ Below w.heap.size w w' := by
  have hs : SlV (w.alloc (.cells (u8s [0, 1, 2, 1, 65]).toArray 5)) (w.heap.size + 1) (.slice (some ⟨w.heap.size, 0, none⟩) 5 5) (u8s [0, 1, 2, 1, 65]) := SlV.new w (u8s [0, 1, 2, 1, 65]) 5 (by simp [u8s, maxLen])
  have HN := Lib.hid (new_any _ [0, 1, 2, 1, 65] _ _ hs (by simp))
  have HB0 := Lib.hid ((Below.refl w.heap.size w).alloc (Nat.le_refl _) (.cells (u8s [0, 1, 2, 1, 65]).toArray 5))
  clear hs
  go_enter Try.func7, Try.ntmps7
  go_wp2_with fail
  refine HN.out.mono ?_
  rintro e w1 ⟨g, A, c, rfl, hg, hr1, hb1⟩
  have hg0 : w.heap.size ≤ g := by simp at hg; omega
  have HB1 := Lib.hid (HB0.out.trans (hb1.mono (by simp)))
  have hg1 := hr1.blk.lt
  have HNUM := Lib.hid (num_any w1 g A c _ 0 true hr1 3)
  clear hr1 hb1 hg HB0
  unfold Read at HNUM
  rw [(k_num 0 rfl).1, (k_num 0 rfl).2.1, (k_num 0 rfl).2.2] at HNUM
  go_wp2_with fail
  refine HNUM.out.mono ?_
  rintro e w2 ⟨rfl, hr2, ho2⟩
  have HB2 := Lib.hid (below_of_only HB1.out ho2 (by omega) hg0)
  have HT := Lib.hid (text_read w2 g A c _ 3 true hr2 9)
  have hg2 := hr2.blk.lt
  clear hr2 ho2 HB1
  unfold ReadT at HT
  rw [k_text.1, k_text.2.1, k_text.2.2] at HT
  go_wp2_with fail
  refine HT.out.mono ?_
  rintro e w3 ⟨rfl, hr3, ho3⟩
  have HB3 := Lib.hid (below_of_only HB2.out ho3 (by omega) hg0)
  have HR3 := Lib.hid hr3
  have hg3 := hr3.blk.lt
  clear hr3 ho3 HB2
  have HP := Lib.hid (put_any (.slice none 0 0) [] 258 3 w3 .nil (by simp) (by simp))
  go_wp2_with fail
  refine HP.out.mono ?_
  rintro e w4 ⟨v4, rfl, hown4, hb4⟩
  have hs4 : ([] ++ u8s (putB 258 3)) = u8s [0, 1, 2] := by rw [show putB 258 3 = [0, 1, 2] from by decide +kernel]; rfl
  rw [hs4] at hown4
  have hc4 := text_of (SlV.of_own hown4)
  have HB4 := Lib.hid (HB3.out.trans (hb4.mono (by omega)))
  have HR4 := Lib.hid (HR3.out.below hb4 hg3)
  have hg4 := HR4.out.blk.lt
  clear hown4 hs4 hb4 HB3 HR3
  go_wp2_with fail
  have HX := Lib.hid (text_any (.slice none 0 0) [] ⟨#[65]⟩ w4 .nil (by simp) (by simp) (by simp [maxLen, ByteArray.size]))
  refine HX.out.mono ?_
  rintro e w5 ⟨v5, rfl, hown5, hb5⟩
  have hs5 : ([] ++ u8s (textB ⟨#[65]⟩)) = u8s [1, 65] := by rw [show textB ⟨#[65]⟩ = [1, 65] from by decide +kernel]; rfl
  rw [hs5] at hown5
  have hc5 := text_of (SlV.of_own hown5)
  have HB5 := Lib.hid (HB4.out.trans (hb5.mono (by omega)))
  have HR5 := Lib.hid (HR4.out.below hb5 hg4)
  have hg5 := HR5.out.blk.lt
  clear hown5 hs5 hb5 HB4 HR4 hc4
  go_wp2_with fail
  have HL := Lib.hid (left_any w5 g A c _ 5 true HR5.out)
  refine HL.out.mono ?_
  rintro e w6 ⟨rfl, q6, rfl⟩
  have HR6 := Lib.hid (HR5.out.drewN q6)
  go_wp2_with fail
  refine (bad_any _ g A c _ 5 true HR6.out).mono ?_
  rintro e w7 ⟨rfl, rfl⟩
  go_wp2_with fail
  have HNUM2 := Lib.hid (num_any _ g A c _ 5 true HR6.out 1)
  unfold Read at HNUM2
  rw [k_end.1, k_end.2.1, k_end.2.2] at HNUM2
  refine HNUM2.out.mono ?_
  rintro e w8 ⟨rfl, hr8, ho8⟩
  have HB8 := Lib.hid (below_of_only (below_drewN HB5.out q6) ho8 (by have := HB5.out.size; simpa using this) hg0)
  have HR8 := Lib.hid hr8
  clear hr8 ho8
  go_wp2_with fail
  refine (bad_any _ g A c _ 5 false HR8.out).mono ?_
  rintro e w9 ⟨rfl, rfl⟩
  go_wp2_with fail
  go_ret
  exact ⟨rfl, HB8.out⟩

theorem num_odd (w : World) (g : Nat) (A : Option Addr) (c : Nat) (l : List UInt8) (p : Nat) (h : Rdr w g A c l p false) (k : Int) : Calls Try.prog 10 #[.pointer (some ⟨g, 0, none⟩), .int .i64 k] w fun e w' => e = .returned (.int .i64 0) ∧ w = w' := by
  have H := Lib.hid (num_bad w k (.func 32) _ (n41_bad w g A c l p h k))
  clear h
  go_enter Try.func10, Try.ntmps10
  go_wp2_with fail
  refine H.out.mono ?_
  rintro e w1 ⟨rfl, rfl⟩
  go_wp2
  go_ret
  exact ⟨rfl, rfl⟩

theorem signed_odd (w : World) (g : Nat) (A : Option Addr) (c : Nat) (l : List UInt8) (p : Nat) (h : Rdr w g A c l p false) (k : Int) : Calls Try.prog 11 #[.pointer (some ⟨g, 0, none⟩), .int .i64 k] w fun e w' => e = .returned (.int .i64 0) ∧ w = w' := by
  have H := Lib.hid (num_bad w k (.func 33) _ (n41_bad w g A c l p h k))
  clear h
  go_enter Try.func11, Try.ntmps11
  go_wp2_with fail
  refine H.out.mono ?_
  rintro e w1 ⟨rfl, rfl⟩
  go_wp2
  go_ret
  exact ⟨rfl, rfl⟩

/-- A reader that New did not make. -/
theorem odd_new (w : World) : Rdr (w.alloc (.cells #[.slice none 0 0, .int .i64 0, .bool false] 56)) w.heap.size none 0 [] 0 false :=
  ⟨Blk.new _ _ _, .nil, Nat.le_refl _, by simp⟩
end Go.Proofs.Ytlpmndljjdljmaa.By
