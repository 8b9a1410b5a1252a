/-
  WALKS: lines, words and decimals, and instructions as lines, as the document says.
-/
import Derived.Test.YtnplhpbbdgnmiaaGreatDoorMh
namespace Go.Proofs.YtnplhpbbdgnmiaaGreatDoor.Ln
open Go.RowKit
open Mem Go.Lib

theorem lsB_few (s : ByteArray) : ∀ i, (lsB s i).1.length ≤ i
  | 0 => by simp [lsB]
  | i + 1 => by
    have := lsB_few s i
    rw [lsB]
    split
    · simp; omega
    · omega
theorem lines_few (s : ByteArray) : (linesL s).length ≤ s.size + 1 := by
  have := lsB_few s s.size
  unfold linesL
  rw [List.length_map]
  split
  · simp; omega
  · omega

theorem false_not {b : Bool} (h : ¬ b = true) : b = false := by cases b <;> simp_all

set_option maxRecDepth 100000 in
set_option maxHeartbeats 4000000 in
theorem texts_law (s : ByteArray) (n : Int) (A : Option Addr) (N c : Nat) (l : List ByteArray) (w : World) (h0 : -9223372036854775808 ≤ n) (h1 : n ≤ 9223372036854775807) (hN : l.length = N) (hl : SlV w w.heap.size (.slice A N c) (strs l)) (hw : Wl w) :
    Calls Tryz.prog 3 #[.string s, .int .i64 n, .slice A N c] w (TrueAns w) := by
  have HW := Lib.hid hw
  have HL := Lib.hid hl
  have HK := Lib.hid known_any
  by_cases hs : 1000 < s.size
  · have hsI : (1000 : Int) < (s.size : Int) := by omega
    have hsd : decide ((1000 : Int) < (s.size : Int)) = true := decide_eq_true hsI
    clear hw hl h0 h1
    go_enter Tryz.func3, Tryz.ntmps3
    go_wp2_with fail
    refine (HK.out _ HW.out).mono ?_
    rintro e w1 ⟨rfl, hb⟩
    have HB := Lib.hid hb
    clear hb
    go_wp2_with fail
    go_ret
    exact ⟨rfl, HB.out⟩
  · have hsI : ¬ (1000 : Int) < (s.size : Int) := by omega
    have hsd : decide ((1000 : Int) < (s.size : Int)) = false := decide_eq_false hsI
    have HF := Lib.hid (few_any w N c A l hN hl)
    have HNM := Lib.hid (fun W h => number_any s W (by omega) (Wl.er h) (Wl.tb h))
    have HRN := Lib.hid (fun W => rnumber_any s W (by omega))
    have HSP := Lib.hid (fun W h => split_any s W (by omega) (Wl.mx h))
    have HRS := Lib.hid (fun W => rsplit_any s W (by omega))
    have HWO := Lib.hid (fun W => words_any s W (by omega))
    have HRW := Lib.hid (fun W => rwords_any s W (by omega))
    have HTS := Lib.hid (show ∀ (W : World) (B B2 c c2 : Nat) (A A2 : Option Addr) (k : List ByteArray), k.length ≤ s.size + 1 → SlV W B (.slice A k.length c) (strs k) → SlV W B2 (.slice A2 k.length c2) (strs k) → Calls Tryz.prog 9 #[.slice A k.length c, .slice A2 k.length c2] W (TrueAns W) from fun W B B2 c c2 A A2 k hk h1 h2 => texts_same W B B2 k.length c c2 A A2 k rfl h1 h2 (by omega))
    have HJ := Lib.hid (fun W (hf : Few l 40 100) (h : SlV W W.heap.size (.slice A N c) (strs l)) => join_any A c N l W hN h ⟨by have := hf.1; omega, fun x hx => by have := hf.2 x hx; omega⟩)
    have HRJ := Lib.hid (fun W (hf : Few l 40 100) (h : SlV W W.heap.size (.slice A N c) (strs l)) => rjoin_any A c N l W hN h ⟨by have := hf.1; omega, fun x hx => by have := hf.2 x hx; omega⟩)
    have HDE := Lib.hid (fun W h => decimal_any n h0 h1 W (Wl.tb h))
    have HDI := Lib.hid (fun W => rdigits_any n h0 h1 W)
    have HLF := Lib.hid (lines_few s)
    have HWF := Lib.hid (words_few s)
    clear hw hl h0 h1 hs hN
    go_enter Tryz.func3, Tryz.ntmps3
    go_wp2_with fail
    refine HF.out.mono ?_
    rintro e w1 ⟨bl, rfl, hfew, rfl⟩
    cases bl with
    | false =>
      clear hfew
      go_wp2_with fail
      refine (HK.out _ HW.out).mono ?_
      rintro e w1 ⟨rfl, hb⟩
      have HB := Lib.hid hb
      clear hb
      go_wp2_with fail
      go_ret
      exact ⟨rfl, HB.out⟩
    | true =>
      have HFW := Lib.hid (hfew rfl)
      clear hfew hsI hsd
      go_wp2_with fail
      refine (HNM.out _ HW.out).mono ?_
      rintro e w2 ⟨rfl, hb⟩
      have B2 := Lib.hid hb
      clear hb
      go_wp2_with fail
      refine (HRN.out _).mono ?_
      rintro e w3 ⟨rfl, hb⟩
      have B3 := Lib.hid (B2.out.trans (hb.mono B2.out.size))
      clear hb
      generalize numV s = p at *
      go_wp2_with fail
      refine (HSP.out _ (HW.out.below B3.out)).mono ?_
      rintro e w4 ⟨A4, c4, rfl, hv, hb⟩
      have V4 := Lib.hid hv
      have B4 := Lib.hid (B3.out.trans (hb.mono B3.out.size))
      clear hv hb
      go_wp2_with fail
      refine (HRS.out _).mono ?_
      rintro e w5 hh
      obtain ⟨A5, c5, rfl, hv, hb⟩ := TAns.list hh
      have HT3 := Lib.hid (HTS.out w5 _ _ c4 c5 A4 A5 (linesL s) HLF.out (V4.out.below hb) hv)
      have B5 := Lib.hid (B4.out.trans (hb.mono B4.out.size))
      clear hh hv hb
      go_wp2_with fail
      refine HT3.out.mono ?_
      rintro e w6 ⟨rfl, hb⟩
      have B6 := Lib.hid (B5.out.trans (hb.mono B5.out.size))
      clear hb HT3 V4
      go_wp2_with fail
      refine (HWO.out _).mono ?_
      rintro e w7 ⟨A7, c7, rfl, hv, hb⟩
      have V7 := Lib.hid hv
      have B7 := Lib.hid (B6.out.trans (hb.mono B6.out.size))
      clear hv hb
      go_wp2_with fail
      refine (HRW.out _).mono ?_
      rintro e w8 hh
      obtain ⟨A8, c8, rfl, hv, hb⟩ := TAns.list hh
      have HT6 := Lib.hid (HTS.out w8 _ _ c7 c8 A7 A8 (wordsL s) HWF.out (V7.out.below hb) hv)
      have B8 := Lib.hid (B7.out.trans (hb.mono B7.out.size))
      clear hh hv hb
      go_wp2_with fail
      refine HT6.out.mono ?_
      rintro e w9 ⟨rfl, hb⟩
      have B9 := Lib.hid (B8.out.trans (hb.mono B8.out.size))
      clear hb HT6 V7
      have HJ2 := Lib.hid (HJ.out w9 HFW.out ((HL.out.below B9.out).more B9.out.size))
      go_wp2_with fail
      refine HJ2.out.mono ?_
      rintro e w10 ⟨rfl, hb⟩
      have B10 := Lib.hid (B9.out.trans (hb.mono B9.out.size))
      have HJ3 := Lib.hid (HRJ.out w10 HFW.out ((HL.out.below B10.out).more B10.out.size))
      clear hb HJ2
      go_wp2_with fail
      refine HJ3.out.mono ?_
      rintro e w11 ⟨rfl, rfl⟩
      go_wp2_with fail
      refine (HDE.out _ (HW.out.below B10.out)).mono ?_
      rintro e w11 ⟨rfl, hb⟩
      have B11 := Lib.hid (B10.out.trans (hb.mono B10.out.size))
      clear hb
      go_wp2_with fail
      refine (HDI.out _).mono ?_
      rintro e w12 ⟨rfl, hb⟩
      have B12 := Lib.hid (B11.out.trans (hb.mono B11.out.size))
      clear hb
      go_wp2_with fail
      refine (HK.out _ (HW.out.below B12.out)).mono ?_
      rintro e w13 ⟨rfl, hb⟩
      have B13 := Lib.hid (B12.out.trans (hb.mono B12.out.size))
      clear hb
      go_wp2_with fail
      go_ret
      exact ⟨rfl, B13.out⟩

end Go.Proofs.YtnplhpbbdgnmiaaGreatDoor.Ln
