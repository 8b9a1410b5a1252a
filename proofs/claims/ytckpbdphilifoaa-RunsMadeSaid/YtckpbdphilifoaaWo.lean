/-
  WALK: rows of any table, and whether it may be, as the document says.
-/
import Derived.Test.YtckpbdphilifoaaWn
import Derived.Test.YtckpbdphilifoaaWf
namespace Go.Proofs.Ytckpbdphilifoaa.By
open Go.RowKit
open Mem Gm Rf

theorem alike_w {w : World} {A A2 : Option Addr} {N c c2 : Nat} {l : List Ro} (h : RoL w A N c l) (h2 : RoL w A2 N c2 l) : Calls Try.prog 13 #[.slice A N c, .slice A2 N c2] w (TAns w) :=
  (sameRows_any w A A2 N c N c2 l l h h2).mono fun e w' hh => by
    obtain ⟨⟨b, h1, h2⟩, h3⟩ := hh
    rw [h2.2 rfl] at h1
    exact ⟨h1, h3⟩

set_option maxHeartbeats 4000000 in
set_option maxRecDepth 100000 in
theorem runsTold_any (w : World) (A : Option Addr) (c n : Nat) (l : List Rn) (p q : Int) (h : RnL w A n c l) :
    Calls Try.prog 4 #[.slice A n c, .int .i64 p, .int .i64 q] w (TAns w) := by
  have HG := Lib.hid h
  clear h
  by_cases h1 : 300 < n
  · have e0 : (300 : Int) < (n : Int) := by omega
    clear h1
    go_enter Try.func4, Try.ntmps4
    go_wp2_with fail
    refine (known13_any _).mono ?_
    rintro e w9 ⟨rfl, b9⟩
    have HB99 := Lib.hid (b9)
    clear b9
    go_wp2_with fail
    go_ret
    exact ⟨rfl, HB99.out⟩
  · have e0 : ¬ (300 : Int) < (n : Int) := by omega
    by_cases h2 : 5000 < q
    · clear h1
      go_enter Try.func4, Try.ntmps4
      go_wp2_with fail
      refine (known13_any _).mono ?_
      rintro e w9 ⟨rfl, b9⟩
      have HB99 := Lib.hid (b9)
      clear b9
      go_wp2_with fail
      go_ret
      exact ⟨rfl, HB99.out⟩
    · obtain ⟨x, hx⟩ : ∃ x, rowV l p = x := ⟨_, rfl⟩
      obtain ⟨bl, hbl⟩ : ∃ bl, hasV l p = bl := ⟨_, rfl⟩
      obtain ⟨y, hy⟩ : ∃ y, chkR l n q = y := ⟨_, rfl⟩
      obtain ⟨N, hN⟩ : ∃ N, cntP q = N := ⟨_, rfl⟩
      obtain ⟨rl, hrl⟩ : ∃ rl, rowsT l N = rl := ⟨_, rfl⟩
      have HA1 := Lib.hid (fun w (h : RnL w A n c l) => by have := runAt_any w p A n c l h; unfold AtAns aggRo at this; rw [hx, hbl] at this; exact this)
      have HA2 := Lib.hid (fun w (h : RnL w A n c l) => by have := rat_any w p A n c l h; unfold AtAns aggRo at this; rw [hx, hbl] at this; exact this)
      have HC1 := Lib.hid (fun w (h : RnL w A n c l) => by have := check_any w A n c l q h; rw [hy] at this; exact this)
      have HC2 := Lib.hid (fun w (h : RnL w A n c l) => by have := rcheck_any w A n c l q h; rw [hy] at this; exact this)
      have HW1 := Lib.hid (fun w (h : RnL w A n c l) => by have := rows_any w A n c l q h; rw [hN, hrl] at this; exact this)
      have HW2 := Lib.hid (fun w (h : RnL w A n c l) => by have := rrows_any w A n c l q h; rw [hN, hrl] at this; exact this)
      have hbb : (bl == bl) = true := by cases bl <;> rfl
      clear h1 hx hbl hy hN hrl
      go_enter Try.func4, Try.ntmps4
      go_wp2_with fail
      refine (HA1.out _ HG.out).mono ?_
      rintro e w1 ⟨rfl, b1⟩
      have Rl1 := Lib.hid (HG.out.on b1)
      have HB1 := Lib.hid (b1)
      clear b1 HG
      go_wp2_with fail
      refine (HA2.out _ (Rl1.out.on (alloc_ _ _))).mono ?_
      rintro e w2 ⟨rfl, b2⟩
      have Rx2 := Lib.hid ((B4.new w1 x _).on b2)
      have Rl2 := Lib.hid ((Rl1.out.on (alloc_ _ _)).on b2)
      have HB2 := Lib.hid (to_ (to_ HB1.out (alloc_ _ _)) b2)
      clear b2 Rl1 HB1
      obtain ⟨w3, hw3⟩ : ∃ w3, w2.alloc (.cells #[.int .i64 x.1, .int .i64 x.2.1, .bool x.2.2.1, .int .i64 x.2.2.2] 33) = w3 := ⟨_, rfl⟩
      have b3 : Below w2.heap.size w2 w3 := by rw [← hw3]; exact alloc_ _ _
      obtain ⟨_, x0, x1, x2, x3⟩ := Rx2.out.on b3
      obtain ⟨_, y0, y1, y2, y3⟩ : B4 w3 w2.heap.size x := by rw [← hw3]; exact B4.new w2 x _
      have Rl3 := Lib.hid (Rl2.out.on b3)
      have HB3 := Lib.hid (to_ HB2.out b3)
      clear b3 Rx2 HB2 Rl2
      go_wp2_with fail
      refine (HC1.out _ Rl3.out).mono ?_
      rintro e w4 ⟨rfl, b4⟩
      have Rl4 := Lib.hid (Rl3.out.on b4)
      have HB4 := Lib.hid (to_ HB3.out b4)
      clear b4 Rl3 HB3
      try clear hw3 x0 x1 x2 x3 y0 y1 y2 y3
      go_wp2_with fail
      refine (HC2.out _ Rl4.out).mono ?_
      rintro e w5 ⟨rfl, b5⟩
      have Rl5 := Lib.hid (Rl4.out.on b5)
      have HB5 := Lib.hid (to_ HB4.out b5)
      clear b5 Rl4 HB4
      go_wp2_with fail
      refine (HW1.out _ Rl5.out).mono ?_
      rintro e w6 ⟨A6, c6, rfl, h6, b6⟩
      have Ra6 := Lib.hid (h6)
      have Rl6 := Lib.hid (Rl5.out.on b6)
      have HB6 := Lib.hid (to_ HB5.out b6)
      clear b6 h6 Rl5 HB5
      go_wp2_with fail
      refine (HW2.out _ Rl6.out).mono ?_
      rintro e w7 ⟨A7, c7, rfl, h7, b7⟩
      have Rb7 := Lib.hid (h7)
      have Ra7 := Lib.hid (Ra6.out.on b7)
      have Rl7 := Lib.hid (Rl6.out.on b7)
      have HB7 := Lib.hid (to_ HB6.out b7)
      clear b7 h7 Ra6 Rl6 HB6
      go_wp2_with fail
      refine (alike_w Ra7.out Rb7.out).mono ?_
      rintro e w8 ⟨rfl, b8⟩
      have Rl8 := Lib.hid (Rl7.out.on b8)
      have HB8 := Lib.hid (to_ HB7.out b8)
      clear b8 Rb7 Ra7 Rl7 HB7
      go_wp2_with fail
      refine (known13_any _).mono ?_
      rintro e w9 ⟨rfl, b9⟩
      have Rl9 := Lib.hid (Rl8.out.on b9)
      have HB9 := Lib.hid (to_ HB8.out b9)
      clear b9 Rl8 HB8
      go_wp2_with fail
      go_ret
      exact ⟨rfl, HB9.out⟩
end Go.Proofs.Ytckpbdphilifoaa.By
