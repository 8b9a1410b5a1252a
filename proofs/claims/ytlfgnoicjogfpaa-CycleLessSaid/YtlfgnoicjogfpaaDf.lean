/-
  WALK: who is on a circle, and orders, as the document says.
-/
import Derived.Test.YtlfgnoicjogfpaaDe
namespace Go.Proofs.Ytlfgnoicjogfpaa.By
open Go.RowKit
open Mem Gm Rf

theorem ord_few {g : List (List Int)} {ins : List Bool} : (oI (ordV g ins)).length ≤ g.length := by
  cases h : ordV g ins with
  | none => exact Nat.zero_le _
  | some l =>
    have ho := ordV_some h
    have : (oI (some l)).length = l.length := by simp [oI, coI]
    rw [this]
    exact nodup_len _ _ ho.nodup fun x hx => ((ho.mem x).1 hx).1
theorem back_few {g : List (List Int)} {ins : List Bool} : (oI (backV g ins)).length ≤ g.length := by
  have := ord_few (g := turn (innG g ins)) (ins := ins)
  rw [turn_length, innG, gr_length] at this
  exact this

set_option maxHeartbeats 4000000 in
set_option maxRecDepth 100000 in
theorem cycleTells_any (w : World) (A A2 : Option Addr) (c c2 N M : Nat) (g : List (List Int)) (ins : List Bool) (hN : g.length = N) (hM : ins.length = M) (h : GW w (.slice A N c) g) (hI : LW w (.slice A2 M c2) ins) :
    Calls Try.prog 3 #[.slice A N c, .slice A2 M c2] w (TAns w) := by
  have HN := Lib.hid hN
  have HM := Lib.hid hM
  have HG := Lib.hid h
  have HI := Lib.hid hI
  clear hN hM h hI
  go_enter Try.func3, Try.ntmps3
  go_wp2_with fail
  refine (few_w _ _ _ _ g HN.out HG.out).mono ?_
  rintro e w' ⟨bl, rfl, hbl, rfl⟩
  cases bl with
  | false =>
    clear hbl
    go_wp2_with fail
    refine (known11_any _).mono ?_
    rintro e w1 ⟨rfl, b1⟩
    have HB1 := Lib.hid b1
    clear b1
    go_wp2_with fail
    go_ret
    exact ⟨rfl, HB1.out⟩
  | true =>
    have hs := hbl rfl
    clear hbl
    by_cases hm : 40 < M
    · have hd : decide ((40 : Int) < (M : Int)) = true := by simp; omega
      clear hm
      go_wp2_with fail
      refine (known11_any _).mono ?_
      rintro e w1 ⟨rfl, b1⟩
      have HB1 := Lib.hid b1
      clear b1
      go_wp2_with fail
      go_ret
      exact ⟨rfl, HB1.out⟩
    · have hd : decide ((40 : Int) < (M : Int)) = false := by simp; omega
      have HN24 := Lib.hid (show N ≤ 24 from HN.out ▸ hs.1)
      obtain ⟨L1, hL1⟩ : ∃ L1, (oI (ordV g ins)).length = L1 := ⟨_, rfl⟩
      obtain ⟨L2, hL2⟩ : ∃ L2, (oI (backV g ins)).length = L2 := ⟨_, rfl⟩
      obtain ⟨L3, hL3⟩ : ∃ L3, (ronL N ins (witG g ins) N).length = L3 := ⟨_, rfl⟩
      have HS1 := Lib.hid (show L1 ≤ 24 by rw [← hL1]; exact Nat.le_trans ord_few hs.1)
      have HS2 := Lib.hid (show L2 ≤ 24 by rw [← hL2]; exact Nat.le_trans back_few hs.1)
      have HS3 := Lib.hid (show L3 ≤ 24 by rw [← hL3]; exact Nat.le_trans (ronL_len _ _ _ _) HN24.out)
      have HO := Lib.hid (fun w A A2 c c2 h hI => order_w w A A2 c c2 N M L1 g ins HN.out HM.out hL1 h hI hs)
      have HRO := Lib.hid (fun w A A2 c c2 h hI => rorder_w w A A2 c c2 N M L1 g ins HN.out HM.out hL1 h hI hs)
      have HB := Lib.hid (fun w A A2 c c2 h hI => back_w w A A2 c c2 N M L2 g ins HN.out HM.out hL2 h hI hs)
      have HRB := Lib.hid (fun w A A2 c c2 h hI => rback_w w A A2 c c2 N M L2 g ins HN.out HM.out hL2 h hI hs)
      have HC := Lib.hid (fun w A A2 c c2 h hI => on_w w A A2 c c2 N M L3 g ins HN.out HM.out hL3 h hI hs)
      have HRC := Lib.hid (fun w A A2 c c2 h hI => ron_w w A A2 c c2 N M L3 g ins HN.out HM.out hL3 h hI hs)
      have HL1 := Lib.hid hL1
      have HL2 := Lib.hid hL2
      have HL3 := Lib.hid (show (coI (ronL N ins (witG g ins) N)).length = L3 by rw [coI, List.length_map]; exact hL3)
      clear hL1 hL2 hL3 hs hm
      generalize coI (ronL N ins (witG g ins) N) = l3 at HC HRC HL3
      generalize oI (ordV g ins) = l1 at HO HRO HL1
      generalize oI (backV g ins) = l2 at HB HRB HL2
      generalize (ordV g ins).isSome = x1 at HO HRO
      generalize (backV g ins).isSome = x2 at HB HRB
      have hx1 : (x1 == x1) = true := by cases x1 <;> rfl
      have hx2 : (x2 == x2) = true := by cases x2 <;> rfl
      go_wp2_with fail
      refine (HO.out _ _ _ _ _ HG.out HI.out).mono ?_
      rintro e w1 ⟨A1, c1, rfl, h1, b1⟩
      have Ra1 := Lib.hid (h1)
      have Rg1 := Lib.hid (HG.out.on b1)
      have Rm1 := Lib.hid (HI.out.on b1)
      have HB1 := Lib.hid (b1)
      clear b1 h1 HG HI
      go_wp2_with fail
      refine (HRO.out _ _ _ _ _ Rg1.out Rm1.out).mono ?_
      rintro e w2 ⟨A2, c2, rfl, h2, b2⟩
      have Rb2 := Lib.hid (h2)
      have Ra2 := Lib.hid (Ra1.out.on b2)
      have Rg2 := Lib.hid (Rg1.out.on b2)
      have Rm2 := Lib.hid (Rm1.out.on b2)
      have HB2 := Lib.hid (to_ HB1.out b2)
      clear b2 h2 Ra1 Rg1 Rm1 HB1
      go_wp2_with fail
      refine (HB.out _ _ _ _ _ Rg2.out Rm2.out).mono ?_
      rintro e w3 ⟨A3, c3, rfl, h3, b3⟩
      have Rc3 := Lib.hid (h3)
      have Rb3 := Lib.hid (Rb2.out.on b3)
      have Ra3 := Lib.hid (Ra2.out.on b3)
      have Rg3 := Lib.hid (Rg2.out.on b3)
      have Rm3 := Lib.hid (Rm2.out.on b3)
      have HB3 := Lib.hid (to_ HB2.out b3)
      clear b3 h3 Rb2 Ra2 Rg2 Rm2 HB2
      go_wp2_with fail
      refine (HRB.out _ _ _ _ _ Rg3.out Rm3.out).mono ?_
      rintro e w4 ⟨A4, c4, rfl, h4, b4⟩
      have Rd4 := Lib.hid (h4)
      have Rc4 := Lib.hid (Rc3.out.on b4)
      have Rb4 := Lib.hid (Rb3.out.on b4)
      have Ra4 := Lib.hid (Ra3.out.on b4)
      have Rg4 := Lib.hid (Rg3.out.on b4)
      have Rm4 := Lib.hid (Rm3.out.on b4)
      have HB4 := Lib.hid (to_ HB3.out b4)
      clear b4 h4 Rc3 Rb3 Ra3 Rg3 Rm3 HB3
      go_wp2_with fail
      refine (HC.out _ _ _ _ _ Rg4.out Rm4.out).mono ?_
      rintro e w5 ⟨A5, c5, rfl, h5, b5⟩
      have Re5 := Lib.hid (h5)
      have Rd5 := Lib.hid (Rd4.out.on b5)
      have Rc5 := Lib.hid (Rc4.out.on b5)
      have Rb5 := Lib.hid (Rb4.out.on b5)
      have Ra5 := Lib.hid (Ra4.out.on b5)
      have Rg5 := Lib.hid (Rg4.out.on b5)
      have Rm5 := Lib.hid (Rm4.out.on b5)
      have HB5 := Lib.hid (to_ HB4.out b5)
      clear b5 h5 Rd4 Rc4 Rb4 Ra4 Rg4 Rm4 HB4
      go_wp2_with fail
      refine (HRC.out _ _ _ _ _ Rg5.out Rm5.out).mono ?_
      rintro e w6 ⟨A6, c6, rfl, h6, b6⟩
      have Rf6 := Lib.hid (h6)
      have Re6 := Lib.hid (Re5.out.on b6)
      have Rd6 := Lib.hid (Rd5.out.on b6)
      have Rc6 := Lib.hid (Rc5.out.on b6)
      have Rb6 := Lib.hid (Rb5.out.on b6)
      have Ra6 := Lib.hid (Ra5.out.on b6)
      have HB6 := Lib.hid (to_ HB5.out b6)
      clear b6 h6 Re5 Rd5 Rc5 Rb5 Ra5 Rg5 Rm5 HB5
      go_wp2_with fail
      refine (ints_w _ _ _ _ _ L3 l3 HL3.out Re6.out Rf6.out (by have := HS3.out; omega)).mono ?_
      rintro e w7 ⟨rfl, b7⟩
      have Rd7 := Lib.hid (Rd6.out.on b7)
      have Rc7 := Lib.hid (Rc6.out.on b7)
      have Rb7 := Lib.hid (Rb6.out.on b7)
      have Ra7 := Lib.hid (Ra6.out.on b7)
      have HB7 := Lib.hid (to_ HB6.out b7)
      clear b7 Rf6 Re6 Rd6 Rc6 Rb6 Ra6 HB6
      go_wp2_with fail
      refine (ints_w _ _ _ _ _ L1 l1 HL1.out Ra7.out Rb7.out (by have := HS1.out; omega)).mono ?_
      rintro e w8 ⟨rfl, b8⟩
      have Rd8 := Lib.hid (Rd7.out.on b8)
      have Rc8 := Lib.hid (Rc7.out.on b8)
      have HB8 := Lib.hid (to_ HB7.out b8)
      clear b8 Rd7 Rc7 Rb7 Ra7 HB7
      go_wp2_with fail
      refine (ints_w _ _ _ _ _ L2 l2 HL2.out Rc8.out Rd8.out (by have := HS2.out; omega)).mono ?_
      rintro e w9 ⟨rfl, b9⟩
      have HB9 := Lib.hid (to_ HB8.out b9)
      clear b9 Rd8 Rc8 HB8
      go_wp2_with fail
      refine (known11_any _).mono ?_
      rintro e w10 ⟨rfl, b10⟩
      have HB10 := Lib.hid (to_ HB9.out b10)
      clear b10 HB9
      go_wp2_with fail
      go_ret
      exact ⟨rfl, HB10.out⟩
end Go.Proofs.Ytlfgnoicjogfpaa.By
