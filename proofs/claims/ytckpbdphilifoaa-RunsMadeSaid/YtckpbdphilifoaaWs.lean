/-
  WALK: the table of any rows may be, has the rows, and is the only one.
-/
import Derived.Test.YtckpbdphilifoaaWo
import Derived.Test.YtckpbdphilifoaaWr
namespace Go.Proofs.Ytckpbdphilifoaa.By
open Go.RowKit
open Mem Gm Rf

set_option maxHeartbeats 4000000 in
set_option maxRecDepth 100000 in
theorem runsMade_any (w : World) (A A2 : Option Addr) (c n c2 m : Nat) (rows : List Ro) (l : List Rn) (hr : RoL w A n c rows) (hl : RnL w A2 m c2 l) :
    Calls Try.prog 3 #[.slice A n c, .slice A2 m c2] w (TAns w) := by
  have HR := Lib.hid hr
  have HG := Lib.hid hl
  have HRN := Lib.hid (show rows.length = n from hr.1)
  have HLM := Lib.hid (show l.length = m from hl.1)
  clear hr hl
  by_cases h1 : 300 < n
  · have e0 : (300 : Int) < (n : Int) := by omega
    clear h1
    go_enter Try.func3, Try.ntmps3
    go_wp2_with fail
    refine (known13_any _).mono ?_
    rintro e w9 ⟨rfl, b9⟩
    have HB99 := Lib.hid (b9)
    clear b9
    go_wp2_with fail
    go_ret
    exact ⟨rfl, HB99.out⟩
  · have e0 : ¬ (300 : Int) < (n : Int) := by omega
    by_cases h2 : 300 < m
    · have e1 : (300 : Int) < (m : Int) := by omega
      clear h1 h2
      go_enter Try.func3, Try.ntmps3
      go_wp2_with fail
      refine (known13_any _).mono ?_
      rintro e w9 ⟨rfl, b9⟩
      have HB99 := Lib.hid (b9)
      clear b9
      go_wp2_with fail
      go_ret
      exact ⟨rfl, HB99.out⟩
    · have e1 : ¬ (300 : Int) < (m : Int) := by omega
      obtain ⟨mk, hmk⟩ : ∃ mk, mkT rows n = mk := ⟨_, rfl⟩
      obtain ⟨N, hN⟩ : ∃ N, mk.length = N := ⟨_, rfl⟩
      obtain ⟨y, hy⟩ : ∃ y, chkR l m (n : Int) = y := ⟨_, rfl⟩
      have HN9 := Lib.hid (show n ≤ 4096 ∧ m ≤ 4096 from ⟨by omega, by omega⟩)
      have HMK := Lib.hid (fun w (h : RoL w A n c rows) => by have := make_any w A n c rows h (by omega); rw [hmk, hN] at this; exact this)
      have HRM := Lib.hid (fun w (h : RoL w A n c rows) => by have := rmake_any w A n c rows h (by omega); rw [hmk, hN] at this; exact this)
      have HCK := Lib.hid (show ∀ w A1 c1, RnL w A1 N c1 mk → Calls Try.prog 12 #[.slice A1 N c1, .int .i64 (n : Int)] w (CAns w 0) from fun w A1 c1 h => by have := check_any w A1 N c1 mk (n : Int) h; have hz : chkR mk N (n : Int) = 0 := (by rw [← hN, ← hmk]; exact mk_check rows n (by omega)); rw [hz] at this; exact this)
      have HRW := Lib.hid (fun w A1 c1 (h : RnL w A1 N c1 mk) => by have := rows_any w A1 N c1 mk (n : Int) h; rw [cnt_nat n (by omega), show rowsT mk n = rows by rw [← hmk]; exact mk_rows rows n HRN.out] at this; exact this)
      have HCL := Lib.hid (fun w (h : RnL w A2 m c2 l) => by have := check_any w A2 m c2 l (n : Int) h; rw [hy] at this; exact this)
      have HRL := Lib.hid (fun w (h : RnL w A2 m c2 l) => by have := rrows_any w A2 m c2 l (n : Int) h; rw [cnt_nat n (by omega)] at this; exact this)
      have HONE := Lib.hid (show y = 0 → rowsT l n = rows → l = mk from fun hy0 hrr => by rw [← hmk]; exact mk_only HLM.out (by omega) (hy.trans hy0) hrr)
      have HLN := Lib.hid hN
      clear h1 h2 hmk hN hy
      go_enter Try.func3, Try.ntmps3
      go_wp2_with fail
      refine (HMK.out _ HR.out).mono ?_
      rintro e w1 ⟨X1, z1, rfl, h1, b1⟩
      have Ra1 := Lib.hid (h1)
      have Rr1 := Lib.hid (HR.out.on b1)
      have Rl1 := Lib.hid (HG.out.on b1)
      have HB1 := Lib.hid (b1)
      clear b1 h1 HR HG
      go_wp2_with fail
      refine (HRM.out _ Rr1.out).mono ?_
      rintro e w2 ⟨X2, z2, rfl, h2, b2⟩
      have Rb2 := Lib.hid (h2)
      have Ra2 := Lib.hid (Ra1.out.on b2)
      have Rr2 := Lib.hid (Rr1.out.on b2)
      have Rl2 := Lib.hid (Rl1.out.on b2)
      have HB2 := Lib.hid (to_ HB1.out b2)
      clear b2 h2 Ra1 Rr1 Rl1 HB1
      go_wp2_with fail
      refine (same_any _ _ _ _ _ _ _ Ra2.out Rb2.out).mono ?_
      rintro e w3 ⟨rfl, b3⟩
      have Ra3 := Lib.hid (Ra2.out.on b3)
      have Rr3 := Lib.hid (Rr2.out.on b3)
      have Rl3 := Lib.hid (Rl2.out.on b3)
      have HB3 := Lib.hid (to_ HB2.out b3)
      clear b3 Rb2 Ra2 Rr2 Rl2 HB2
      go_wp2_with fail
      refine (HCK.out _ _ _ Ra3.out).mono ?_
      rintro e w4 ⟨rfl, b4⟩
      have Ra4 := Lib.hid (Ra3.out.on b4)
      have Rr4 := Lib.hid (Rr3.out.on b4)
      have Rl4 := Lib.hid (Rl3.out.on b4)
      have HB4 := Lib.hid (to_ HB3.out b4)
      clear b4 Ra3 Rr3 Rl3 HB3
      go_wp2_with fail
      refine (HRW.out _ _ _ Ra4.out).mono ?_
      rintro e w5 ⟨X5, z5, rfl, h5, b5⟩
      have Rt5 := Lib.hid (h5)
      have Ra5 := Lib.hid (Ra4.out.on b5)
      have Rr5 := Lib.hid (Rr4.out.on b5)
      have Rl5 := Lib.hid (Rl4.out.on b5)
      have HB5 := Lib.hid (to_ HB4.out b5)
      clear b5 h5 Ra4 Rr4 Rl4 HB4
      go_wp2_with fail
      refine (alike_w Rt5.out Rr5.out).mono ?_
      rintro e w6 ⟨rfl, b6⟩
      have Ra6 := Lib.hid (Ra5.out.on b6)
      have Rr6 := Lib.hid (Rr5.out.on b6)
      have Rl6 := Lib.hid (Rl5.out.on b6)
      have HB6 := Lib.hid (to_ HB5.out b6)
      clear b6 Rt5 Ra5 Rr5 Rl5 HB5
      go_wp2_with fail
      refine (HCL.out _ Rl6.out).mono ?_
      rintro e w7 ⟨rfl, b7⟩
      have Ra7 := Lib.hid (Ra6.out.on b7)
      have Rr7 := Lib.hid (Rr6.out.on b7)
      have Rl7 := Lib.hid (Rl6.out.on b7)
      have HB7 := Lib.hid (to_ HB6.out b7)
      clear b7 Ra6 Rr6 Rl6 HB6
      by_cases hy0 : y = 0
      · subst hy0
        go_wp2_with fail
        refine (HRL.out _ Rl7.out).mono ?_
        rintro e w8 ⟨X8, z8, rfl, h8, b8⟩
        have Rt8 := Lib.hid (h8)
        have Ra8 := Lib.hid (Ra7.out.on b8)
        have Rr8 := Lib.hid (Rr7.out.on b8)
        have Rl8 := Lib.hid (Rl7.out.on b8)
        have HB8 := Lib.hid (to_ HB7.out b8)
        clear b8 h8 Ra7 Rr7 Rl7 HB7
        go_wp2_with fail
        refine (sameRows_any _ _ _ _ _ _ _ _ _ Rt8.out Rr8.out).mono ?_
        rintro e w9 ⟨⟨b, rfl, hb⟩, b9⟩
        have HB9 := Lib.hid (to_ HB8.out b9)
        have Ra9 := Lib.hid (Ra8.out.on b9)
        have Rl9 := Lib.hid (Rl8.out.on b9)
        have HBB := Lib.hid hb
        clear b9 hb
        cases b with
        | false =>
          go_wp2_with fail
          refine (known13_any _).mono ?_
          rintro e w9 ⟨rfl, b9⟩
          have HB99 := Lib.hid ((to_ HB9.out (b9)))
          clear b9
          go_wp2_with fail
          go_ret
          exact ⟨rfl, HB99.out⟩
        | true =>
          have hlm := HONE.out (by trivial) (HBB.out.1 (by trivial))
          have hmN : m = N := by rw [← HLM.out, ← HLN.out, hlm]
          have HSM := Lib.hid (show Calls Try.prog 10 #[.slice X1 N z1, .slice A2 m c2] w9 (TAns w9) from by
            have hl := Rl9.out
            rw [hlm] at hl
            subst hmN
            exact same_any w9 _ _ _ _ _ _ Ra9.out hl)
          clear hlm hmN
          go_wp2_with fail
          refine HSM.out.mono ?_
          rintro e w10 ⟨rfl, b10⟩
          have HB10 := Lib.hid (to_ HB9.out b10)
          clear b10
          go_wp2_with fail
          refine (known13_any _).mono ?_
          rintro e w9 ⟨rfl, b9⟩
          have HB99 := Lib.hid ((to_ HB10.out (b9)))
          clear b9
          go_wp2_with fail
          go_ret
          exact ⟨rfl, HB99.out⟩
      · have hy1 : (y == 0) = false := by simpa using hy0
        go_wp2_with fail
        refine (known13_any _).mono ?_
        rintro e w9 ⟨rfl, b9⟩
        have HB99 := Lib.hid ((to_ HB7.out (b9)))
        clear b9
        go_wp2_with fail
        go_ret
        exact ⟨rfl, HB99.out⟩
end Go.Proofs.Ytckpbdphilifoaa.By
