/-
  WALK: turned, and back.
-/
import Derived.Test.YtfgnlemoodfgoaaHa
namespace Go.Proofs.Ytfgnlemoodfgoaa.By
open Go.RowKit
open Mem Gm Rf

set_option linter.unusedSimpArgs false in
set_option maxHeartbeats 4000000 in
set_option maxRecDepth 100000 in
theorem turns_any (w : World) (A : Option Addr) (c N : Nat) (g : List (List Int)) (a b : Int) (hN : g.length = N) (h : GW w (.slice A N c) g) :
    Calls Try.prog 4 #[.slice A N c, .int .i64 a, .int .i64 b] w (TAns w) := by
  have HN := Lib.hid hN
  have HG := Lib.hid h
  clear hN h
  go_enter Try.func4, Try.ntmps4
  go_wp2_with fail
  refine (few_w _ _ _ _ g HN.out HG.out).mono ?_
  rintro e w' ⟨bl, rfl, hbl, rfl⟩
  cases bl with
  | false =>
    clear hbl
    go_wp2_with fail
    refine (known_any _).mono ?_
    rintro e w1 ⟨rfl, b1⟩
    have HB1 := Lib.hid b1
    clear b1
    go_wp2_with fail
    go_ret
    exact ⟨rfl, HB1.out⟩
  | true =>
    have HS := Lib.hid (hbl rfl)
    have HN24 := Lib.hid (show N ≤ 24 from HN.out ▸ (hbl rfl).1)
    have HTN := Lib.hid (show (turn g).length = N by rw [turn_length]; exact HN.out)
    clear hbl
    go_wp2_with fail
    refine (turn_w _ _ _ N g HN.out HG.out HS.out).mono ?_
    rintro e w1 ⟨A1, c1, rfl, h1, b1⟩
    refine have HT1 := Lib.hid h1; have HG1 := Lib.hid (HG.out.on b1); have HB1 := Lib.hid b1; ?_
    clear h1 b1 HG
    go_wp2_with fail
    refine (turn_w _ _ _ N (turn g) HTN.out HT1.out HS.out.turn).mono ?_
    rintro e w2 ⟨A2, c2, rfl, h2, b2⟩
    rw [turn_turn] at h2
    refine have HV2 := Lib.hid h2; have HT2 := Lib.hid (HT1.out.on b2); have HG2 := Lib.hid (HG1.out.on b2); have HB2 := Lib.hid (to_ HB1.out b2); ?_
    clear h2 b2 HG1 HT1 HB1
    go_wp2_with fail
    refine (clean_w _ _ _ N g HN.out HG2.out HS.out).mono ?_
    rintro e w3 ⟨A3, c3, rfl, h3, b3⟩
    refine have HV3 := Lib.hid h3; have HV2' := Lib.hid (HV2.out.on b3); have HT3 := Lib.hid (HT2.out.on b3); have HG3 := Lib.hid (HG2.out.on b3); have HB3 := Lib.hid (to_ HB2.out b3); ?_
    clear h3 b3 HV2 HG2 HT2 HB2
    go_wp2_with fail
    refine (same_w _ _ _ _ _ N (clean g) (by rw [clean_length]; exact HN.out) HV2'.out HV3.out HN24.out).mono ?_
    rintro e w4 ⟨rfl, b4⟩
    refine have HT4 := Lib.hid (HT3.out.on b4); have HG4 := Lib.hid (HG3.out.on b4); have HB4 := Lib.hid (to_ HB3.out b4); ?_
    clear b4 HV2' HV3 HG3 HT3 HB3
    obtain ⟨L, hL⟩ : ∃ L, (wayI g a b).length = L := ⟨_, rfl⟩
    have HL := Lib.hid hL
    clear hL
    go_wp2_with fail
    refine (way_w _ _ _ N L g a b HN.out HL.out HG4.out HS.out).mono ?_
    rintro e w5 ⟨A5, c5, rfl, h5, b5⟩
    refine have HW5 := Lib.hid h5; have HT5 := Lib.hid (HT4.out.on b5); have HG5 := Lib.hid (HG4.out.on b5); have HB5 := Lib.hid (to_ HB4.out b5); ?_
    clear h5 b5 HG4 HT4 HB4
    by_cases hin : (0 ≤ a ∧ a < (N : Int)) ∧ (0 ≤ b ∧ b < (N : Int))
    · obtain ⟨⟨ha0, haN⟩, hb0, hbN⟩ := hin
      obtain ⟨x, rfl⟩ : ∃ x : Nat, a = (x : Int) := ⟨a.toNat, by omega⟩
      obtain ⟨y, rfl⟩ : ∃ y : Nat, b = (y : Int) := ⟨b.toNat, by omega⟩
      have hxN : x < N := by omega
      have hyN : y < N := by omega
      have k1 : ¬ ((x : Int) < 0) := by omega
      have k2 : ¬ ((y : Int) < 0) := by omega
      have k3 : ¬ ((N : Int) ≤ (x : Int)) := by omega
      have k4 : ¬ ((N : Int) ≤ (y : Int)) := by omega
      obtain ⟨f, hf⟩ := wayF (x := x) (y := y) HN.out HL.out
      have HFW := Lib.hid hf
      clear hf
      go_wp2_with fail
      refine (reach_w _ _ _ _ _ N 1 g [(x : Int)] HN.out rfl (HG5.out.on (alloc_ _ _)) (IW.lit [(x : Int)] 1 (Blk.new w5 3 _) rfl rfl (by decide)) HS.out (by decide)).mono ?_
      rintro e w6 ⟨A6, rfl, h6, b6⟩
      refine have HX6 := Lib.hid h6; have HW6 := Lib.hid ((HW5.out.on (alloc_ _ _)).on b6); have HT6 := Lib.hid ((HT5.out.on (alloc_ _ _)).on b6); have HG6 := Lib.hid ((HG5.out.on (alloc_ _ _)).on b6); have HB6 := Lib.hid (to_ (to_ HB5.out (alloc_ _ _)) b6); ?_
      clear h6 b6 HW5 HT5 HG5 HB5
      go_wp2_with fail
      refine (reach_w _ _ _ _ _ N 1 (turn g) [(y : Int)] HTN.out rfl (HT6.out.on (alloc_ _ _)) (IW.lit [(y : Int)] 1 (Blk.new w6 3 _) rfl rfl (by decide)) HS.out.turn (by decide)).mono ?_
      rintro e w7 ⟨A7, rfl, h7, b7⟩
      refine have HY7 := Lib.hid h7; have HX7 := Lib.hid ((HX6.out.on (alloc_ _ _)).on b7); have HW7 := Lib.hid ((HW6.out.on (alloc_ _ _)).on b7); have HG7 := Lib.hid ((HG6.out.on (alloc_ _ _)).on b7); have HB7 := Lib.hid (to_ (to_ HB6.out (alloc_ _ _)) b7); ?_
      clear h7 b7 HX6 HW6 HT6 HG6 HB6
      obtain ⟨a6, rfl, cx⟩ := HX7.out.at2 HN.out hyN
      obtain ⟨a7, rfl, cy⟩ := HY7.out.at2 HTN.out hxN
      rw [reach_turn] at cy
      rw [HFW.out.told] at cx cy
      have hN24 := HN24.out
      have hLN := HFW.out.len
      clear HX7 HY7
      by_cases hL0 : L = 0
      · subst hL0
        rw [show decide (0 < 0) = false from rfl] at cx cy
        go_wp2_with fail
        go_quiet (fail)
        go_wp2_with fail
        go_loopw [11] (fun i wr => ∃ q : Nat, i = .int .i64 1 ∧ wr = w7.drewN q) (fun _ _ => 0)
        case atStart => exact ⟨_, rfl, rfl⟩
        case round =>
          obtain ⟨q, rfl, rfl⟩ := hrel
          go_wp2_with fail
          refine (known_any _).mono ?_
          rintro e w8 ⟨rfl, b8⟩
          have HB8 := Lib.hid (to_ (below_drewN HB7.out q) b8)
          clear b8
          go_wp2_with fail
          go_ret
          exact ⟨rfl, HB8.out⟩
      · have hLp : 0 < L := by omega
        have hLI : (0 : Int) < (L : Int) := by omega
        rw [show decide (0 < L) = true from decide_eq_true hLp] at cx cy
        obtain ⟨l, hl⟩ : ∃ l, l + 1 = L := ⟨L - 1, by omega⟩
        obtain ⟨a5, e5, c0⟩ := HW7.out.at2 (HFW.out.at_ 0 hLp).1
        subst e5
        obtain ⟨a5', e5', cl⟩ := HW7.out.at2 (HFW.out.at_ l (by omega)).1
        obtain rfl : a5 = a5' := by injection e5'
        rw [HFW.out.fst hLp] at c0
        rw [HFW.out.lst l hl] at cl
        have HC := Lib.hid (show ∀ p k, p + 1 = k → k < L → ∃ u v : Nat, w7.cell? (a5.add p) = some (.int .i64 (u : Int)) ∧ w7.cell? (a5.add k) = some (.int .i64 (v : Int)) ∧ ∀ q, Calls Try.prog 18 #[.slice A N c, .int .i64 (u : Int), .int .i64 (v : Int)] (w7.drewN q) fun e w' => e = .returned (.bool true) ∧ w' = w7.drewN q from fun p k hpk hkL => by
          obtain ⟨ap, ep, cp⟩ := HW7.out.at2 (HFW.out.at_ p (by omega)).1
          obtain ⟨ak, ek, ck⟩ := HW7.out.at2 (HFW.out.at_ k hkL).1
          injection ep with ep; subst ep
          injection ek with ek; subst ek
          refine ⟨f p, f k, cp, ck, fun q => ?_⟩
          have hg : Gr (w7.drewN q) w7.heap.size (.slice A N c) g := Gr.keep HG7.out fun _ _ => rfl
          have hu := (HFW.out.at_ p (by omega)).2
          have hv := (HFW.out.at_ k hkL).2
          have h2 := edge_any (w7.drewN q) w7.heap.size A c g (by rw [HN.out]; exact hg) (f p) (f k) (by rw [HN.out]; exact hu) (by rw [HN.out]; exact hv)
          rw [HN.out, HFW.out.step p k hpk hkL] at h2
          exact h2.mono fun e w' ⟨he, hw⟩ => ⟨he, hw.symm⟩)
        have C0 := Lib.hid c0
        have CL := Lib.hid cl
        clear e5' c0 cl HG7 HW7 HFW HL
        go_wp2_with fail
        go_quiet (fail)
        go_wp2_with fail
        go_loopw [11] (fun i wr => ∃ k q : Nat, 1 ≤ k ∧ k ≤ L ∧ i = .int .i64 k ∧ Hid (wr = w7.drewN q)) (fun i _ => L - (intOf i).toNat)
        case atStart => exact ⟨1, _, by omega, by omega, rfl, Lib.hid rfl⟩
        case round =>
          obtain ⟨k, q, hk1, hk, rfl, HQ⟩ := hrel
          by_cases hlt : k < L
          · obtain ⟨p, hp⟩ : ∃ p, p + 1 = k := ⟨k - 1, by omega⟩
            obtain ⟨u, v, cp, ck, HE⟩ := HC.out p k hp hlt
            have cp' : wr.cell? (a5.add p) = some (.int .i64 (u : Int)) := by rw [HQ.out]; exact cp
            have ck' : wr.cell? (a5.add k) = some (.int .i64 (v : Int)) := by rw [HQ.out]; exact ck
            have HE2 := Lib.hid (show ∀ n, Calls Try.prog 18 #[.slice A N c, .int .i64 (u : Int), .int .i64 (v : Int)] (wr.drewN n) fun e w' => e = .returned (.bool true) ∧ w' = wr.drewN n from fun n => by
              have h1 := HE (q + n)
              rw [← World.drewN_drewN, ← HQ.out] at h1
              exact h1)
            have hwx : IntKind.i64.wrap ((k : Int) - 1) = (p : Int) := by
              have h5 : (k : Int) - 1 = (p : Int) := by omega
              rw [h5, IntKind.wrap_i64]; omega
            have hkI : (k : Int) < (L : Int) := by omega
            have hk0 : (0 : Int) ≤ (k : Int) := by omega
            have hpI : (p : Int) < (L : Int) := by omega
            have hp0 : (0 : Int) ≤ (p : Int) := by omega
            clear HE cp ck
            go_wp2_with fail
            go_quiet ((go_at_call 18; exact Calls.quiet_of_same (HE2.out _)))
            go_wp2_with fail
            go_roundw
            case rel => exact ⟨k + 1, q + nq, by omega, by omega, by go_num, Lib.hid (by rw [HQ.out, World.drewN_drewN])⟩
            case measure => simp [intOf]; omega
          · have hkL : k = L := by omega
            subst hkL
            have c0 : wr.cell? (a5.add 0) = some (.int .i64 (x : Int)) := by rw [HQ.out]; exact C0.out
            have c0' : wr.cell? a5 = some (.int .i64 (x : Int)) := by
              have h1 := c0
              rwa [show a5.add 0 = a5 by simp [Addr.add]] at h1
            have cl : wr.cell? (a5.add l) = some (.int .i64 (y : Int)) := by rw [HQ.out]; exact CL.out
            have hwl : IntKind.i64.wrap ((k : Int) - 1) = (l : Int) := by
              have h5 : (k : Int) - 1 = (l : Int) := by omega
              rw [h5, IntKind.wrap_i64]; omega
            have hlI : (l : Int) < (k : Int) := by omega
            have hl0 : (0 : Int) ≤ (l : Int) := by omega
            have hke : ((k : Int) == 0) = false := by simp; omega
            have hkNI : (k : Int) ≤ (N : Int) := by omega
            have HBQ := Lib.hid (show Below w.heap.size w wr by rw [HQ.out]; exact below_drewN HB7.out q)
            go_wp2_with fail
            refine (known_any _).mono ?_
            rintro e w8 ⟨rfl, b8⟩
            have HB8 := Lib.hid (to_ HBQ.out b8)
            clear b8
            go_wp2_with fail
            go_ret
            exact ⟨rfl, HB8.out⟩
    · have hL0 : L = 0 := way_off HN.out HL.out (by omega)
      subst hL0
      have hd : a < 0 ∨ (¬ a < 0 ∧ (N : Int) ≤ a) ∨ (¬ a < 0 ∧ ¬ (N : Int) ≤ a ∧ b < 0) ∨ (¬ a < 0 ∧ ¬ (N : Int) ≤ a ∧ ¬ b < 0 ∧ (N : Int) ≤ b) := by omega
      clear hin
      rcases hd with h1 | ⟨h1, h2⟩ | ⟨h1, h2, h3⟩ | ⟨h1, h2, h3, h4⟩
      all_goals
        go_wp2_with fail
        refine (known_any _).mono ?_
        rintro e w6 ⟨rfl, b6⟩
        have HB6 := Lib.hid (to_ HB5.out b6)
        clear b6
        go_wp2_with fail
        go_ret
        exact ⟨rfl, HB6.out⟩
end Go.Proofs.Ytfgnlemoodfgoaa.By
