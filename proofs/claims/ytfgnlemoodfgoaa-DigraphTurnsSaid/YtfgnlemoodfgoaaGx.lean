/-
  WALK: graphs and ways, as the document says.
-/
import Derived.Test.YtfgnlemoodfgoaaGw
namespace Go.Proofs.Ytfgnlemoodfgoaa.By
open Go.RowKit
open Mem Gm Rf

theorem wayI_short (g : List (List Int)) (a b : Int) : (wayI g a b).length ≤ g.length := by
  rw [wayI, List.length_map]
  unfold way
  cases hf : (told (clean g) [a]).find? (fun s => (s.1 : Int) == b) with
  | none => exact Nat.zero_le _
  | some s =>
    have h1 := told_short (v := s.1) (t := s.2) (List.mem_of_find?_eq_some hf)
    rw [clean_length] at h1
    show (pth s).reverse.length ≤ _
    rw [List.length_reverse]; exact h1

def FAns (g : List (List Int)) (w : World) (e : Ending) (w' : World) : Prop := ∃ bl, e = .returned (.bool bl) ∧ (bl = true → Fits g 24 30) ∧ w = w'
theorem few_w (w : World) (A : Option Addr) (c N : Nat) (g : List (List Int)) (hN : g.length = N) (h : GW w (.slice A N c) g) : Calls Try.prog 6 #[.slice A N c] w (FAns g w) := by
  subst hN
  refine (few_any w _ A c g h).mono fun e w' hh => ?_
  obtain ⟨bl, h1, h2, h3⟩ := hh
  exact ⟨bl, h1, h2.1, h3⟩

set_option maxHeartbeats 2000000 in
set_option maxRecDepth 100000 in
theorem tells_any (w : World) (A A2 : Option Addr) (c c2 N M : Nat) (g : List (List Int)) (fs : List Int) (a b : Int) (hN : g.length = N) (hM : fs.length = M) (h : GW w (.slice A N c) g) (hF : IW w (.slice A2 M c2) fs) :
    Calls Try.prog 3 #[.slice A N c, .slice A2 M c2, .int .i64 a, .int .i64 b] w (TAns w) := by
  have HN := Lib.hid hN
  have HM := Lib.hid hM
  have HG := Lib.hid h
  have HF := Lib.hid hF
  clear hN hM h hF
  go_enter Try.func3, Try.ntmps3
  go_wp2_with fail
  refine (few_w _ _ _ _ g HN.out HG.out).mono ?_
  rintro e w' ⟨bl, rfl, hbl, rfl⟩
  cases bl with
  | false =>
    clear hbl
    go_wp2_with fail
    refine (known_any _).mono ?_
    rintro e w1 ⟨rfl, b1⟩
    have HB1 := Lib.hid b1
    clear b1
    go_wp2_with fail
    go_ret
    exact ⟨rfl, HB1.out⟩
  | true =>
    have HS := Lib.hid (hbl rfl)
    clear hbl
    by_cases hm : 30 < M
    · have hd : decide ((30 : Int) < (M : Int)) = true := by simp; omega
      clear hm
      go_wp2_with fail
      refine (known_any _).mono ?_
      rintro e w1 ⟨rfl, b1⟩
      have HB1 := Lib.hid b1
      clear b1
      go_wp2_with fail
      go_ret
      exact ⟨rfl, HB1.out⟩
    · have hd : decide ((30 : Int) < (M : Int)) = false := by simp; omega
      have HM30 := Lib.hid (show M ≤ 31 by omega)
      have HN24 := Lib.hid (show N ≤ 24 from HN.out ▸ HS.out.1)
      clear hm
      go_wp2_with fail
      refine (clean_w _ _ _ N g HN.out HG.out HS.out).mono ?_
      rintro e w1 ⟨A1, c1, rfl, h1, b1⟩
      have HV1 := Lib.hid h1
      have HG1 := Lib.hid (HG.out.on b1)
      have HF1 := Lib.hid (HF.out.on b1)
      have HB1 := Lib.hid b1
      clear h1 b1 HG HF
      go_wp2_with fail
      refine (rclean_w _ _ _ N g HN.out HG1.out HS.out).mono ?_
      rintro e w2 ⟨A2', c2', rfl, h2, b2⟩
      refine have HV2 := Lib.hid h2; have HV1' := Lib.hid (HV1.out.on b2); have HG2 := Lib.hid (HG1.out.on b2); have HF2 := Lib.hid (HF1.out.on b2); have HB2 := Lib.hid (to_ HB1.out b2); ?_
      clear h2 b2 HV1 HG1 HF1 HB1
      go_wp2_with fail
      refine (same_w _ _ _ _ _ N (clean g) (by rw [clean_length]; exact HN.out) HV1'.out HV2.out HN24.out).mono ?_
      rintro e w3 ⟨rfl, b3⟩
      refine have HG3 := Lib.hid (HG2.out.on b3); have HF3 := Lib.hid (HF2.out.on b3); have HB3 := Lib.hid (to_ HB2.out b3); ?_
      clear b3 HV1' HV2 HG2 HF2 HB2
      go_wp2_with fail
      refine (turn_w _ _ _ N g HN.out HG3.out HS.out).mono ?_
      rintro e w4 ⟨A4, c4, rfl, h4, b4⟩
      refine have HV4 := Lib.hid h4; have HG4 := Lib.hid (HG3.out.on b4); have HF4 := Lib.hid (HF3.out.on b4); have HB4 := Lib.hid (to_ HB3.out b4); ?_
      clear h4 b4 HG3 HF3 HB3
      go_wp2_with fail
      refine (rturn_w _ _ _ N g HN.out HG4.out HS.out).mono ?_
      rintro e w5 ⟨A5, c5, rfl, h5, b5⟩
      refine have HV5 := Lib.hid h5; have HV4' := Lib.hid (HV4.out.on b5); have HG5 := Lib.hid (HG4.out.on b5); have HF5 := Lib.hid (HF4.out.on b5); have HB5 := Lib.hid (to_ HB4.out b5); ?_
      clear h5 b5 HV4 HG4 HF4 HB4
      go_wp2_with fail
      refine (same_w _ _ _ _ _ N (turn g) (by rw [turn_length]; exact HN.out) HV4'.out HV5.out HN24.out).mono ?_
      rintro e w6 ⟨rfl, b6⟩
      refine have HG6 := Lib.hid (HG5.out.on b6); have HF6 := Lib.hid (HF5.out.on b6); have HB6 := Lib.hid (to_ HB5.out b6); ?_
      clear b6 HV4' HV5 HG5 HF5 HB5
      go_wp2_with fail
      refine (reach_w _ _ _ _ _ N M g fs HN.out HM.out HG6.out HF6.out HS.out HM30.out).mono ?_
      rintro e w7 ⟨A7, rfl, h7, b7⟩
      refine have HV7 := Lib.hid h7; have HG7 := Lib.hid (HG6.out.on b7); have HF7 := Lib.hid (HF6.out.on b7); have HB7 := Lib.hid (to_ HB6.out b7); ?_
      clear h7 b7 HG6 HF6 HB6
      go_wp2_with fail
      refine (rreach_w _ _ _ _ _ N M g fs HN.out HM.out HG7.out HF7.out HS.out HM30.out).mono ?_
      rintro e w8 ⟨A8, rfl, h8, b8⟩
      refine have HV8 := Lib.hid h8; have HV7' := Lib.hid (HV7.out.on b8); have HG8 := Lib.hid (HG7.out.on b8); have HB8 := Lib.hid (to_ HB7.out b8); ?_
      clear h8 b8 HV7 HG7 HF7 HB7
      go_wp2_with fail
      refine (bools_w _ _ _ _ _ N g fs HN.out HV7'.out HV8.out (by have := HN24.out; omega)).mono ?_
      rintro e w9 ⟨rfl, b9⟩
      refine have HG9 := Lib.hid (HG8.out.on b9); have HB9 := Lib.hid (to_ HB8.out b9); ?_
      clear b9 HV7' HV8 HG8 HB8
      obtain ⟨L, hL⟩ : ∃ L, (wayI g a b).length = L := ⟨_, rfl⟩
      have HL := Lib.hid hL
      have HL1 := Lib.hid (show L ≤ 1000 by
        rw [← hL]; have := wayI_short g a b; rw [HN.out] at this; have := HN24.out; omega)
      clear hL
      go_wp2_with fail
      refine (way_w _ _ _ N L g a b HN.out HL.out HG9.out HS.out).mono ?_
      rintro e w10 ⟨A10, c10, rfl, h10, b10⟩
      refine have HV10 := Lib.hid h10; have HG10 := Lib.hid (HG9.out.on b10); have HB10 := Lib.hid (to_ HB9.out b10); ?_
      clear h10 b10 HG9 HB9
      go_wp2_with fail
      refine (rway_w _ _ _ N L g a b HN.out HL.out HG10.out HS.out).mono ?_
      rintro e w11 ⟨A11, c11, rfl, h11, b11⟩
      refine have HV11 := Lib.hid h11; have HV10' := Lib.hid (HV10.out.on b11); have HB11 := Lib.hid (to_ HB10.out b11); ?_
      clear h11 b11 HV10 HG10 HB10
      go_wp2_with fail
      refine (ints_w _ _ _ _ _ L (wayI g a b) HL.out HV10'.out HV11.out HL1.out).mono ?_
      rintro e w12 ⟨rfl, b12⟩
      have HB12 := Lib.hid (to_ HB11.out b12)
      clear b12 HV10' HV11 HB11
      go_wp2_with fail
      refine (known_any _).mono ?_
      rintro e w13 ⟨rfl, b13⟩
      have HB13 := Lib.hid (to_ HB12.out b13)
      clear b13 HB12
      go_wp2_with fail
      go_ret
      exact ⟨rfl, HB13.out⟩
end Go.Proofs.Ytfgnlemoodfgoaa.By
