/-
  WALK: where control goes, what is live, what comes after, as the document says.
-/
import Derived.Test.YtckpbdphilifoaaUk
namespace Go.Proofs.Ytckpbdphilifoaa.By
open Go.RowKit
open Mem Gm Rf

set_option maxHeartbeats 4000000 in
set_option maxRecDepth 100000 in
theorem flowTells_any (w : World) (A A2 : Option Addr) (c c2 n M : Nat) (O T : Nat → Int) (ms : List Int) (i : Int) (hM : ms.length = M) (h : CW w A n c O T) (hm : IW w (.slice A2 M c2) ms) :
    Calls Try.prog 6 #[.slice A n c, .slice A2 M c2, .int .i64 i] w (TAns w) := by
  have HM := Lib.hid hM
  have HG := Lib.hid h
  have HI := Lib.hid hm
  clear hM h hm
  by_cases h1 : 80 < n
  · have e0 : (80 : Int) < (n : Int) := by omega
    clear h1
    go_enter Try.func6, Try.ntmps6
    go_wp2_with fail
    refine (known14_any _).mono ?_
    rintro e w9 ⟨rfl, b9⟩
    have HB99 := Lib.hid (b9)
    clear b9
    go_wp2_with fail
    go_ret
    exact ⟨rfl, HB99.out⟩
  · have e0 : ¬ (80 : Int) < (n : Int) := by omega
    by_cases h2 : 80 < M
    · have e1 : (80 : Int) < (M : Int) := by omega
      clear h1 h2
      go_enter Try.func6, Try.ntmps6
      go_wp2_with fail
      refine (known14_any _).mono ?_
      rintro e w9 ⟨rfl, b9⟩
      have HB99 := Lib.hid (b9)
      clear b9
      go_wp2_with fail
      go_ret
      exact ⟨rfl, HB99.out⟩
    · have e1 : ¬ (80 : Int) < (M : Int) := by omega
      have HN := Lib.hid (show n ≤ 1000 by omega)
      have HMM := Lib.hid (show M ≤ 1000 by omega)
      obtain ⟨L, hL⟩ : ∃ L, (nxt n O T i).length = L := ⟨_, rfl⟩
      have HL2 := Lib.hid (show L ≤ 1000 by rw [← hL]; have := nxt_length n O T i; omega)
      have HL := Lib.hid hL
      have HC := Lib.hid (fun w (h : CW w A n c O T) => check_w h rfl)
      have HRC := Lib.hid (fun w (h : CW w A n c O T) => rcheck_w h rfl)
      clear h1 h2 hL
      generalize chk n (gph n O T) = x at HC HRC
      go_enter Try.func6, Try.ntmps6
      go_wp2_with fail
      refine (next_w i HG.out rfl HL.out).mono ?_
      rintro e w1 ⟨A1, c1, rfl, h1, b1⟩
      have Ra1 := Lib.hid (h1)
      have Rg1 := Lib.hid (HG.out.on b1)
      have Rm1 := Lib.hid (HI.out.on b1)
      have HB1 := Lib.hid (b1)
      clear b1 h1 HG HI
      go_wp2_with fail
      refine (rnext_w i Rg1.out rfl HL.out).mono ?_
      rintro e w2 ⟨A2, c2, rfl, h2, b2⟩
      have Rb2 := Lib.hid (h2)
      have Ra2 := Lib.hid (Ra1.out.on b2)
      have Rg2 := Lib.hid (Rg1.out.on b2)
      have Rm2 := Lib.hid (Rm1.out.on b2)
      have HB2 := Lib.hid (to_ HB1.out b2)
      clear b2 h2 Ra1 Rg1 Rm1 HB1
      go_wp2_with fail
      refine (ints_w HL.out Ra2.out Rb2.out HL2.out).mono ?_
      rintro e w3 ⟨rfl, b3⟩
      have Rg3 := Lib.hid (Rg2.out.on b3)
      have Rm3 := Lib.hid (Rm2.out.on b3)
      have HB3 := Lib.hid (to_ HB2.out b3)
      clear b3 Rb2 Ra2 Rg2 Rm2 HB2
      go_wp2_with fail
      refine (HC.out _ Rg3.out).mono ?_
      rintro e w4 ⟨rfl, b4⟩
      have Rg4 := Lib.hid (Rg3.out.on b4)
      have Rm4 := Lib.hid (Rm3.out.on b4)
      have HB4 := Lib.hid (to_ HB3.out b4)
      clear b4 Rg3 Rm3 HB3
      go_wp2_with fail
      refine (HRC.out _ Rg4.out).mono ?_
      rintro e w5 ⟨rfl, b5⟩
      have Rg5 := Lib.hid (Rg4.out.on b5)
      have Rm5 := Lib.hid (Rm4.out.on b5)
      have HB5 := Lib.hid (to_ HB4.out b5)
      clear b5 Rg4 Rm4 HB4
      go_wp2_with fail
      refine (live_w Rg5.out rfl HN.out).mono ?_
      rintro e w6 ⟨A6, rfl, h6, b6⟩
      have Ra6 := Lib.hid (h6)
      have Rg6 := Lib.hid (Rg5.out.on b6)
      have Rm6 := Lib.hid (Rm5.out.on b6)
      have HB6 := Lib.hid (to_ HB5.out b6)
      clear b6 h6 Rg5 Rm5 HB5
      go_wp2_with fail
      refine (rlive_w Rg6.out rfl HN.out).mono ?_
      rintro e w7 ⟨A7, rfl, h7, b7⟩
      have Rb7 := Lib.hid (h7)
      have Ra7 := Lib.hid (Ra6.out.on b7)
      have Rg7 := Lib.hid (Rg6.out.on b7)
      have Rm7 := Lib.hid (Rm6.out.on b7)
      have HB7 := Lib.hid (to_ HB6.out b7)
      clear b7 h7 Ra6 Rg6 Rm6 HB6
      go_wp2_with fail
      refine (bools_w Ra7.out Rb7.out HN.out).mono ?_
      rintro e w8 ⟨rfl, b8⟩
      have Rg8 := Lib.hid (Rg7.out.on b8)
      have Rm8 := Lib.hid (Rm7.out.on b8)
      have HB8 := Lib.hid (to_ HB7.out b8)
      clear b8 Rb7 Ra7 Rg7 Rm7 HB7
      go_wp2_with fail
      refine (after_w Rg8.out HM.out Rm8.out rfl HN.out HMM.out).mono ?_
      rintro e w9 ⟨A9, rfl, h9, b9⟩
      have Ra9 := Lib.hid (h9)
      have Rg9 := Lib.hid (Rg8.out.on b9)
      have Rm9 := Lib.hid (Rm8.out.on b9)
      have HB9 := Lib.hid (to_ HB8.out b9)
      clear b9 h9 Rg8 Rm8 HB8
      go_wp2_with fail
      refine (rafter_w Rg9.out HM.out Rm9.out rfl HN.out HMM.out).mono ?_
      rintro e w10 ⟨A10, rfl, h10, b10⟩
      have Rb10 := Lib.hid (h10)
      have Ra10 := Lib.hid (Ra9.out.on b10)
      have Rg10 := Lib.hid (Rg9.out.on b10)
      have Rm10 := Lib.hid (Rm9.out.on b10)
      have HB10 := Lib.hid (to_ HB9.out b10)
      clear b10 h10 Ra9 Rg9 Rm9 HB9
      go_wp2_with fail
      refine (bools_w Ra10.out Rb10.out HN.out).mono ?_
      rintro e w11 ⟨rfl, b11⟩
      have Rg11 := Lib.hid (Rg10.out.on b11)
      have Rm11 := Lib.hid (Rm10.out.on b11)
      have HB11 := Lib.hid (to_ HB10.out b11)
      clear b11 Rb10 Ra10 Rg10 Rm10 HB10
      go_wp2_with fail
      refine (known14_any _).mono ?_
      rintro e w12 ⟨rfl, b12⟩
      have Rg12 := Lib.hid (Rg11.out.on b12)
      have Rm12 := Lib.hid (Rm11.out.on b12)
      have HB12 := Lib.hid (to_ HB11.out b12)
      clear b12 Rg11 Rm11 HB11
      go_wp2_with fail
      go_ret
      exact ⟨rfl, HB12.out⟩
end Go.Proofs.Ytckpbdphilifoaa.By
