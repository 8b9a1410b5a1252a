/-
  WALKS of layer 17: what is checked of operands.
-/
import Derived.Test.YtbknmapkdjmcjaaGreatDoorTb
namespace Go.Proofs.YtbknmapkdjmcjaaGreatDoor.By
open Go.RowKit
open Mem Gm Rf
set_option linter.unusedSimpArgs false
set_option linter.unusedVariables false

theorem par_in (n : Int) : 0 ≤ Si.parV n ∧ Si.parV n ≤ 3 := by unfold Si.parV; split <;> omega
set_option maxHeartbeats 4000000 in
theorem df_any (own o a b c n : Int) (nm : ByteArray) (loc : Bool) (so kd df : Int) (AK : Option Addr) (nK cK : Nat) (w : World) (h1 : -9223372036854775808 ≤ kd) (h2 : kd ≤ 9223372036854775807) (ks : List Int) (hk : IW w (.slice AK nK cK) ks) (hl : ks.length = nK) (hm : nK ≤ 1000000) (i : Int) : Calls Tryz.prog 285 #[.agg #[.slice AK nK cK, .int .i64 own, .int .i64 o, .int .i64 a, .int .i64 b, .int .i64 c, .int .i64 n, .string nm, .bool loc, .int .i64 so, .int .i64 kd, .int .i64 df], .int .i64 i] w fun e w' => e = .returned (.int .i64 (dfE ks (clsV o c kd) i)) ∧ Below w.heap.size w w' := by
  obtain ⟨W1, hW1⟩ : ∃ W1, w.alloc (.cells #[.slice AK nK cK, .int .i64 own, .int .i64 o, .int .i64 a, .int .i64 b, .int .i64 c, .int .i64 n, .string nm, .bool loc, .int .i64 so, .int .i64 kd, .int .i64 df] 123) = W1 := ⟨_, rfl⟩
  have HB1 := Lib.hid (show Below w.heap.size w W1 from by rw [← hW1]; exact alloc_ _ _)
  have HX := Lib.hid (show Blk W1 w.heap.size 123 #[.slice AK nK cK, .int .i64 own, .int .i64 o, .int .i64 a, .int .i64 b, .int .i64 c, .int .i64 n, .string nm, .bool loc, .int .i64 so, .int .i64 kd, .int .i64 df] from by rw [← hW1]; exact Blk.new w _ _)
  obtain ⟨x0, x1, x2, x3, x4, x5, x6, x7, x8, x9, x10, x11⟩ := blk12 HX.out
  have HC := Lib.hid (cls_any own o a b c n nm loc so kd df AK nK cK W1 h1 h2)
  have HS := Lib.hid (fun W (hb : Below W1.heap.size W1 W) => nb_any own o a b c n nm loc so kd df AK nK cK W ks (hk.on (to_ HB1.out hb)) hl hm i)
  generalize clsV o c kd = z at HC ⊢
  have HP := Lib.hid (fun W => Si.par_any z W)
  have HU := Lib.hid (fun W => un_any i W)
  unfold dfE
  generalize Si.parV z = p at HP ⊢
  clear hk hl h1 h2
  by_cases hp : p = 0
  · subst hp
    rw [if_pos rfl]
    go_enter Tryz.func285, Tryz.ntmps285
    go_wp2_with fail
    clear hW1 x0 x1 x2 x3 x4 x5 x6 x7 x8 x9 x10 x11
    refine HC.out.mono ?_
    rintro e w1 ⟨rfl, b1⟩
    have HB2 := Lib.hid (to_ HB1.out b1)
    clear b1
    go_wp2_with fail
    refine (HP.out _).mono ?_
    rintro e w2 ⟨rfl, rfl⟩
    go_wp2_with fail
    refine (HU.out _).mono ?_
    rintro e w2 ⟨rfl, rfl⟩
    go_wp2_with fail
    go_ret
    exact ⟨rfl, HB2.out⟩
  · rw [if_neg hp]
    have d1 : (p == 0) = false := by simpa using hp
    clear hp
    go_enter Tryz.func285, Tryz.ntmps285
    go_wp2_with fail
    clear hW1 x0 x1 x2 x3 x4 x5 x6 x7 x8 x9 x10 x11
    refine HC.out.mono ?_
    rintro e w1 ⟨rfl, b1⟩
    have HB2 := Lib.hid b1
    clear b1
    go_wp2_with fail
    refine (HP.out _).mono ?_
    rintro e w2 ⟨rfl, rfl⟩
    obtain ⟨x0, x1, x2, x3, x4, x5, x6, x7, x8, x9, x10, x11⟩ := blk12 (HX.out.below HB2.out HX.out.lt)
    go_wp2_with fail
    clear x0 x1 x2 x3 x4 x5 x6 x7 x8 x9 x10 x11
    refine (HS.out _ HB2.out).mono ?_
    rintro e w3 ⟨rfl, b3⟩
    have HB3 := Lib.hid (to_ HB1.out (to_ HB2.out b3))
    clear b3
    go_wp2_with fail
    go_ret
    exact ⟨rfl, HB3.out⟩
set_option maxHeartbeats 4000000 in
theorem an_any (own o a b c n : Int) (nm : ByteArray) (loc : Bool) (so kd df : Int) (AK : Option Addr) (nK cK : Nat) (w : World) (ks : List Int) (hk : IW w (.slice AK nK cK) ks) (hl : ks.length = nK) (hm : nK ≤ 1000000) (i : Int) : Calls Tryz.prog 286 #[.agg #[.slice AK nK cK, .int .i64 own, .int .i64 o, .int .i64 a, .int .i64 b, .int .i64 c, .int .i64 n, .string nm, .bool loc, .int .i64 so, .int .i64 kd, .int .i64 df], .int .i64 i] w fun e w' => e = .returned (.int .i64 (anE ks own i)) ∧ Below w.heap.size w w' := by
  obtain ⟨W1, hW1⟩ : ∃ W1, w.alloc (.cells #[.slice AK nK cK, .int .i64 own, .int .i64 o, .int .i64 a, .int .i64 b, .int .i64 c, .int .i64 n, .string nm, .bool loc, .int .i64 so, .int .i64 kd, .int .i64 df] 123) = W1 := ⟨_, rfl⟩
  have HB1 := Lib.hid (show Below w.heap.size w W1 from by rw [← hW1]; exact alloc_ _ _)
  have HX := Lib.hid (show Blk W1 w.heap.size 123 #[.slice AK nK cK, .int .i64 own, .int .i64 o, .int .i64 a, .int .i64 b, .int .i64 c, .int .i64 n, .string nm, .bool loc, .int .i64 so, .int .i64 kd, .int .i64 df] from by rw [← hW1]; exact Blk.new w _ _)
  obtain ⟨x0, x1, x2, x3, x4, x5, x6, x7, x8, x9, x10, x11⟩ := blk12 HX.out
  have HS := Lib.hid (nb_any own o a b c n nm loc so kd df AK nK cK W1 ks (hk.on HB1.out) hl hm i)
  have HP := Lib.hid (fun W => Si.ans_any own W)
  have HU := Lib.hid (fun W => un_any i W)
  unfold anE
  generalize Si.ansV own = p at HP ⊢
  clear hk hl
  cases p with
  | false =>
    rw [if_pos rfl]
    go_enter Tryz.func286, Tryz.ntmps286
    go_wp2_with fail
    refine (HP.out _).mono ?_
    rintro e w2 ⟨rfl, rfl⟩
    go_wp2_with fail
    refine (HU.out _).mono ?_
    rintro e w2 ⟨rfl, rfl⟩
    go_wp2_with fail
    go_ret
    exact ⟨rfl, HB1.out⟩
  | true =>
    rw [if_neg (by decide)]
    go_enter Tryz.func286, Tryz.ntmps286
    go_wp2_with fail
    refine (HP.out _).mono ?_
    rintro e w2 ⟨rfl, rfl⟩
    go_wp2_with fail
    clear hW1 x0 x1 x2 x3 x4 x5 x6 x7 x8 x9 x10 x11
    refine HS.out.mono ?_
    rintro e w3 ⟨rfl, b3⟩
    have HB3 := Lib.hid (to_ HB1.out b3)
    clear b3
    go_wp2_with fail
    go_ret
    exact ⟨rfl, HB3.out⟩
theorem caE_fix {ks : List Int} {i : Int} {k : Nat} (h : caE ks i k ≠ 0) : ∀ n, k ≤ n → caE ks i n = caE ks i k
  | 0, hn => by obtain rfl : k = 0 := by omega
                rfl
  | n + 1, hn => by
    by_cases he : k = n + 1
    · subst he; rfl
    · have h1 := caE_fix h n (by omega)
      rw [caE, if_neg (by rw [h1]; exact h), h1]
set_option maxHeartbeats 8000000 in
theorem cd_any (own o a b c n : Int) (nm : ByteArray) (loc : Bool) (so kd df : Int) (AK : Option Addr) (nK cK : Nat) (w : World) (h1 : -9223372036854775808 ≤ kd) (h2 : kd ≤ 9223372036854775807) (ks : List Int) (hk : IW w (.slice AK nK cK) ks) (hl : ks.length = nK) (hm : nK ≤ 1000000) (i : Int) : Calls Tryz.prog 284 #[.agg #[.slice AK nK cK, .int .i64 own, .int .i64 o, .int .i64 a, .int .i64 b, .int .i64 c, .int .i64 n, .string nm, .bool loc, .int .i64 so, .int .i64 kd, .int .i64 df], .int .i64 i] w fun e w' => e = .returned (.int .i64 (cdE ks (clsV o c kd) i)) ∧ Below w.heap.size w w' := by
  obtain ⟨W1, hW1⟩ : ∃ W1, w.alloc (.cells #[.slice AK nK cK, .int .i64 own, .int .i64 o, .int .i64 a, .int .i64 b, .int .i64 c, .int .i64 n, .string nm, .bool loc, .int .i64 so, .int .i64 kd, .int .i64 df] 123) = W1 := ⟨_, rfl⟩
  have HB1 := Lib.hid (show Below w.heap.size w W1 from by rw [← hW1]; exact alloc_ _ _)
  have HX := Lib.hid (show Blk W1 w.heap.size 123 #[.slice AK nK cK, .int .i64 own, .int .i64 o, .int .i64 a, .int .i64 b, .int .i64 c, .int .i64 n, .string nm, .bool loc, .int .i64 so, .int .i64 kd, .int .i64 df] from by rw [← hW1]; exact Blk.new w _ _)
  obtain ⟨x0, x1, x2, x3, x4, x5, x6, x7, x8, x9, x10, x11⟩ := blk12 HX.out
  have HC := Lib.hid (fun W => cls_any own o a b c n nm loc so kd df AK nK cK W h1 h2)
  have HS := Lib.hid (fun W (hb : Below W1.heap.size W1 W) j => nb_any own o a b c n nm loc so kd df AK nK cK W ks (hk.on (to_ HB1.out hb)) hl hm j)
  generalize clsV o c kd = z at HC ⊢
  have HP := Lib.hid (fun W => Si.par_any z W)
  have HA := Lib.hid (fun W => Si.ans_any z W)
  have HU := Lib.hid (fun W => un_any i W)
  have hpi := par_in z
  unfold cdE
  generalize Si.parV z = p at HP hpi ⊢
  generalize Si.ansV z = a9 at HA ⊢
  clear hk hl h1 h2
  by_cases hp : p = 0
  · subst hp
    clear hpi
    cases a9 with
    | false =>
      rw [if_pos ⟨rfl, rfl⟩]
      go_enter Tryz.func284, Tryz.ntmps284
      go_wp2_with fail
      clear hW1 x0 x1 x2 x3 x4 x5 x6 x7 x8 x9 x10 x11
      refine (HC.out _).mono ?_
      rintro e w1 ⟨rfl, b1⟩
      have HB2 := Lib.hid b1
      clear b1
      go_wp2_with fail
      refine (HP.out _).mono ?_
      rintro e w2 ⟨rfl, rfl⟩
      obtain ⟨x0, x1, x2, x3, x4, x5, x6, x7, x8, x9, x10, x11⟩ := blk12 (HX.out.below HB2.out HX.out.lt)
      go_wp2_with fail
      clear x0 x1 x2 x3 x4 x5 x6 x7 x8 x9 x10 x11
      refine (HC.out _).mono ?_
      rintro e w2 ⟨rfl, b2⟩
      have HB3 := Lib.hid (to_ HB2.out b2)
      clear b2
      go_wp2_with fail
      refine (HA.out _).mono ?_
      rintro e w3 ⟨rfl, rfl⟩
      go_wp2_with fail
      refine (HU.out _).mono ?_
      rintro e w3 ⟨rfl, rfl⟩
      go_wp2_with fail
      go_ret
      exact ⟨rfl, to_ HB1.out HB3.out⟩
    | true =>
      rw [if_neg (by simp), if_pos rfl]
      go_enter Tryz.func284, Tryz.ntmps284
      go_wp2_with fail
      clear hW1 x0 x1 x2 x3 x4 x5 x6 x7 x8 x9 x10 x11
      refine (HC.out _).mono ?_
      rintro e w1 ⟨rfl, b1⟩
      have HB2 := Lib.hid b1
      clear b1
      go_wp2_with fail
      refine (HP.out _).mono ?_
      rintro e w2 ⟨rfl, rfl⟩
      obtain ⟨x0, x1, x2, x3, x4, x5, x6, x7, x8, x9, x10, x11⟩ := blk12 (HX.out.below HB2.out HX.out.lt)
      go_wp2_with fail
      clear x0 x1 x2 x3 x4 x5 x6 x7 x8 x9 x10 x11
      refine (HC.out _).mono ?_
      rintro e w2 ⟨rfl, b2⟩
      have HBL := Lib.hid (to_ HB2.out b2)
      clear b2
      go_wp2_with fail
      refine (HA.out _).mono ?_
      rintro e w3 ⟨rfl, rfl⟩
      go_wp2_with fail
      go_loopw [23] (fun i9 wr => ∃ q : Nat, (q : Int) ≤ (1 : Int) ∧ i9 = .int .i64 (q : Int) ∧ Hid (Below W1.heap.size W1 wr) ∧ Hid (caE ks i q = 0)) (fun i9 _ => ((1 : Int)).toNat - (intOf i9).toNat)
      case atStart => exact ⟨0, by omega, rfl, HBL, Lib.hid rfl⟩
      case round =>
        obtain ⟨q, hq, rfl, HBR, HE⟩ := hrel
        obtain ⟨x0, x1, x2, x3, x4, x5, x6, x7, x8, x9, x10, x11⟩ := blk12 (HX.out.below HBR.out HX.out.lt)
        by_cases hlt : (q : Int) < (1 : Int)
        · have HSQ := Lib.hid (HS.out wr HBR.out (wrap64 (i + q)))
          have HEQ := Lib.hid (show caE ks i (q + 1) = slE ks (wrap64 (i + q)) 0 from by rw [caE, if_pos HE.out])
          have hwi : IntKind.i64.wrap (i + (q : Int)) = wrap64 (i + q) := IntWalk.i64_left _
          generalize wrap64 (i + q) = z at HSQ HEQ hwi
          generalize slE ks z 0 = y at HSQ HEQ
          by_cases hy : y = 0
          · subst hy
            go_wp2_with fail
            clear x0 x1 x2 x3 x4 x5 x6 x7 x8 x9 x10 x11
            refine HSQ.out.mono ?_
            rintro e w4 ⟨rfl, b4⟩
            have HB4 := Lib.hid (to_ HBR.out b4)
            clear b4
            go_wp2_with fail
            go_roundw
            case rel => exact ⟨q + 1, by omega, by go_num, HB4, Lib.hid HEQ.out⟩
            case measure => simp [intOf]; omega
          · have hy1 : (y != 0) = true := by simpa using hy
            have hy2 : (y == 0) = false := by simpa using hy
            have HF := Lib.hid (show caE ks i 1 = y from by rw [← HEQ.out]; exact caE_fix (by rw [HEQ.out]; exact hy) _ (by omega))
            clear hy
            go_wp2_with fail
            clear x0 x1 x2 x3 x4 x5 x6 x7 x8 x9 x10 x11
            refine HSQ.out.mono ?_
            rintro e w4 ⟨rfl, b4⟩
            have HB4 := Lib.hid (to_ HB1.out (to_ HBR.out b4))
            clear b4
            go_wp2_with fail
            go_ret
            exact ⟨by rw [HF.out]; rfl, HB4.out⟩
        · have HF := Lib.hid (show caE ks i 1 = 0 from by rw [show 1 = q from by omega]; exact HE.out)
          clear x0 x1 x2 x3 x4 x5 x6 x7 x8 x9 x10 x11
          go_wp2_with fail
          go_ret
          exact ⟨by rw [HF.out]; rfl, to_ HB1.out HBR.out⟩
  · have d1 : (p == 0) = false := by simpa using hp
    rw [if_neg (by simp [hp]), if_neg hp]
    obtain ⟨N, rfl⟩ := Int.eq_ofNat_of_zero_le hpi.1
    rw [show ((N : Int).toNat) = N from by simp]
    have hN : N ≤ 3 := by omega
    have hN0 : 0 < N := by omega
    clear hp hpi
    go_enter Tryz.func284, Tryz.ntmps284
    go_wp2_with fail
    clear hW1 x0 x1 x2 x3 x4 x5 x6 x7 x8 x9 x10 x11
    refine (HC.out _).mono ?_
    rintro e w1 ⟨rfl, b1⟩
    have HBL := Lib.hid b1
    clear b1
    go_wp2_with fail
    refine (HP.out _).mono ?_
    rintro e w2 ⟨rfl, rfl⟩
    go_wp2_with fail
    go_loopw [23] (fun i9 wr => ∃ q : Nat, (q : Int) ≤ (N : Int) ∧ i9 = .int .i64 (q : Int) ∧ Hid (Below W1.heap.size W1 wr) ∧ Hid (caE ks i q = 0)) (fun i9 _ => ((N : Int)).toNat - (intOf i9).toNat)
    case atStart => exact ⟨0, by omega, rfl, HBL, Lib.hid rfl⟩
    case round =>
      obtain ⟨q, hq, rfl, HBR, HE⟩ := hrel
      obtain ⟨x0, x1, x2, x3, x4, x5, x6, x7, x8, x9, x10, x11⟩ := blk12 (HX.out.below HBR.out HX.out.lt)
      by_cases hlt : (q : Int) < (N : Int)
      · have HSQ := Lib.hid (HS.out wr HBR.out (wrap64 (i + q)))
        have HEQ := Lib.hid (show caE ks i (q + 1) = slE ks (wrap64 (i + q)) 0 from by rw [caE, if_pos HE.out])
        have hwi : IntKind.i64.wrap (i + (q : Int)) = wrap64 (i + q) := IntWalk.i64_left _
        generalize wrap64 (i + q) = z at HSQ HEQ hwi
        generalize slE ks z 0 = y at HSQ HEQ
        by_cases hy : y = 0
        · subst hy
          go_wp2_with fail
          clear x0 x1 x2 x3 x4 x5 x6 x7 x8 x9 x10 x11
          refine HSQ.out.mono ?_
          rintro e w4 ⟨rfl, b4⟩
          have HB4 := Lib.hid (to_ HBR.out b4)
          clear b4
          go_wp2_with fail
          go_roundw
          case rel => exact ⟨q + 1, by omega, by go_num, HB4, Lib.hid HEQ.out⟩
          case measure => simp [intOf]; omega
        · have hy1 : (y != 0) = true := by simpa using hy
          have hy2 : (y == 0) = false := by simpa using hy
          have HF := Lib.hid (show caE ks i N = y from by rw [← HEQ.out]; exact caE_fix (by rw [HEQ.out]; exact hy) _ (by omega))
          clear hy
          go_wp2_with fail
          clear x0 x1 x2 x3 x4 x5 x6 x7 x8 x9 x10 x11
          refine HSQ.out.mono ?_
          rintro e w4 ⟨rfl, b4⟩
          have HB4 := Lib.hid (to_ HB1.out (to_ HBR.out b4))
          clear b4
          go_wp2_with fail
          go_ret
          exact ⟨by rw [HF.out]; rfl, HB4.out⟩
      · have HF := Lib.hid (show caE ks i N = 0 from by rw [show N = q from by omega]; exact HE.out)
        clear x0 x1 x2 x3 x4 x5 x6 x7 x8 x9 x10 x11
        go_wp2_with fail
        go_ret
        exact ⟨by rw [HF.out]; rfl, to_ HB1.out HBR.out⟩
end Go.Proofs.YtbknmapkdjmcjaaGreatDoor.By
