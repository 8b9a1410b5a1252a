/-
  WALKS of layer 28's laws: PrologueChecks, PrologueEnough.
-/
import Derived.Test.YtnenmgefgdpkdaaTm
namespace Go.Proofs.Ytnenmgefgdpkdaa.Bo
open Go.RowKit Go.Maps
open Mem Rf
set_option linter.unusedSimpArgs false
set_option linter.unusedVariables false

set_option maxRecDepth 100000 in
set_option maxHeartbeats 4000000 in
theorem checks28_any (c s g f : Int) (w : World) : Calls Try.prog 3 #[.int .i64 c, .int .i64 s, .int .i64 g, .int .i64 f] w fun e w' => e = .returned (.bool true) ∧ Below w.heap.size w w' := by
  have HL := Lib.hid (fun W => least_any f W)
  have HL2 := Lib.hid (fun W => rleast_any f W)
  have HC := Lib.hid (fun W => cost_any c W)
  have HC2 := Lib.hid (fun W => rcost_any c W)
  have HP := Lib.hid (fun W => pass_any c s g f W)
  have HP2 := Lib.hid (fun W => rpass_any c s g f W)
  obtain ⟨z, hz⟩ : ∃ z, leastV f = z := ⟨_, rfl⟩
  obtain ⟨y, hy⟩ : ∃ y, costV c = y := ⟨_, rfl⟩
  obtain ⟨b, hb⟩ : ∃ b, passV c s g f = b := ⟨_, rfl⟩
  rw [hz] at HL HL2
  rw [hy] at HC HC2
  rw [hb] at HP HP2
  clear hz hy hb
  have hbb : (b == b) = true := by cases b <;> rfl
  go_enter Try.func3, Try.ntmps3
  go_wp2_with (go_at_call 6; refine (HL.out _).mono ?_; rintro e w9 ⟨rfl, hw9⟩; rw [hw9]; clear hw9; go_wp2_with (go_at_call 7; refine (HL2.out _).mono ?_; rintro e w9 ⟨rfl, hw9⟩; rw [hw9]; clear hw9; go_wp2_with (go_at_call 8; refine (HC.out _).mono ?_; rintro e w9 ⟨rfl, hw9⟩; rw [hw9]; clear hw9; go_wp2_with (go_at_call 9; refine (HC2.out _).mono ?_; rintro e w9 ⟨rfl, hw9⟩; rw [hw9]; clear hw9; go_wp2_with (go_at_call 10; refine (HP.out _).mono ?_; rintro e w9 ⟨rfl, hw9⟩; rw [hw9]; clear hw9; go_wp2_with (go_at_call 11; refine (HP2.out _).mono ?_; rintro e w9 ⟨rfl, hw9⟩; rw [hw9]; clear hw9; go_wp2_with (go_at_call 12; refine (known28_any _).mono ?_; rintro e w7 ⟨rfl, hb7⟩; have HB7 := Lib.hid hb7; clear hb7)))))))
  go_ret
  exact ⟨rfl, HB7.out⟩

theorem least_one (f : Int) : 1 ≤ leastV f ∧ leastV f ≤ 3 := by
  unfold leastV
  split
  · omega
  · split <;> omega
/-- Behind a check that passed; all classes from the least one on pass alike. -/
theorem enough_math {s g n d : Int} (hs : 0 ≤ s ∧ s ≤ 65535) (hg : 0 ≤ g ∧ g ≤ 65535) (hn : 0 ≤ n ∧ n ≤ 65535) (hd : leastV n ≤ d) (hd3 : d ≤ 3) :
    passV (leastV n) s g n = passV d s g n ∧ (passV (leastV n) s g n = true → g - 8 ≤ s - n) := by
  have key : ∀ x, leastV n ≤ x → x ≤ 3 → passV x s g n = if s < g then false else if n ≤ 8 then true else decide (n - 8 ≤ s - g) := by
    intro x h1 h2
    have h3 := least_one n
    unfold passV
    by_cases h4 : s < g
    · rw [if_neg (by omega), if_pos (by omega), if_pos h4]
    · rw [if_neg (by omega), if_neg (by omega), if_neg h4]
      by_cases h5 : n ≤ 8
      · rw [if_pos (by omega), if_pos h5]
      · have h6 : 2 ≤ leastV n := by
          unfold leastV
          rw [if_neg h5]
          split <;> omega
        rw [if_neg (by omega), if_neg h5, room_small hs hg hn h4 h5]
  have h3 := least_one n
  rw [key _ (Int.le_refl _) h3.2, key d hd hd3]
  refine ⟨rfl, fun h => ?_⟩
  by_cases h4 : s < g
  · rw [if_pos h4] at h; cases h
  · rw [if_neg h4] at h
    by_cases h5 : n ≤ 8
    · omega
    · rw [if_neg h5] at h
      have := of_decide_eq_true h
      omega
theorem cost_self {d : Int} (h : 1 ≤ d) (h3 : d ≤ 3) : costV d = d := by unfold costV; rw [if_pos ⟨h, h3⟩]

set_option maxRecDepth 100000 in
set_option maxHeartbeats 1000000 in
theorem enough28_any (s g n c : Int) (hs : 0 ≤ s ∧ s ≤ 65535) (hg : 0 ≤ g ∧ g ≤ 65535) (hn : 0 ≤ n ∧ n ≤ 65535) (hc : 0 ≤ c ∧ c ≤ 255) (w : World) : Calls Try.prog 5 #[.int .u16 s, .int .u16 g, .int .u16 n, .int .u8 c] w fun e w' => e = .returned (.bool true) ∧ Below w.heap.size w w' := by
  have h1 := least_one n
  have HM := Lib.hid (fun d hd hd3 => @enough_math s g n d hs hg hn hd hd3)
  have HL := Lib.hid (fun W => least_any n W)
  obtain ⟨C, hC⟩ : ∃ C, leastV n = C := ⟨_, rfl⟩
  rw [hC] at h1 HM HL
  clear hC
  have e1 : IntKind.i64.wrap s = s := IntWalk.i64_in _ (by omega)
  have e2 : IntKind.i64.wrap g = g := IntWalk.i64_in _ (by omega)
  have e3 : IntKind.i64.wrap n = n := IntWalk.i64_in _ (by omega)
  obtain ⟨r, hr⟩ : ∃ r, c.tmod 3 = r := ⟨_, rfl⟩
  have hr2 : 0 ≤ r ∧ r ≤ 2 := by rw [← hr, Int.tmod_eq_emod_of_nonneg hc.1]; omega
  have e4 : IntKind.u8.wrap r = r := by rw [show IntKind.u8.wrap r = r % 256 from by simp [IntKind.wrap, IntKind.bits, IntKind.signed]]; omega
  have e5 : IntKind.i64.wrap r = r := IntWalk.i64_in _ (by omega)
  have e6 : IntKind.i64.wrap (C + r) = C + r := IntWalk.i64_in _ (by omega)
  have e7 : wrap64 (s - n) = s - n := by unfold wrap64; omega
  have e8 : wrap64 (g - 8) = g - 8 := by unfold wrap64; omega
  have e9 : IntKind.i64.wrap (s - n) = s - n := IntWalk.i64_in _ (by omega)
  have e10 : IntKind.i64.wrap (g - 8) = g - 8 := IntWalk.i64_in _ (by omega)
  have t1 : ¬ C < 1 := by omega
  have t2 : ¬ 3 < C := by omega
  have t1' : decide (C < 1) = false := by simp; omega
  have t2' : decide (3 < C) = false := by simp; omega
  clear e6 t1 t2
  obtain ⟨D, hD⟩ : ∃ D, C + r = D := ⟨_, rfl⟩
  have e6 : wrap64 D = D := by unfold wrap64; omega
  have hCD : C ≤ D ∧ 1 ≤ D := by omega
  have HT := Lib.hid (show 1 ≤ C ∧ C ≤ 3 from by omega)
  clear hn hs hg hc hr2 h1
  have HCD := Lib.hid hCD
  clear hCD
  by_cases h3 : 3 < D
  · go_enter Try.func5, Try.ntmps5
    go_wp2_with (go_at_call 6; refine (HL.out _).mono ?_; rintro e w9 ⟨rfl, hw9⟩; rw [hw9]; clear hw9; go_wp2_with (go_at_call 12; refine (known28_any _).mono ?_; rintro e w7 ⟨rfl, hb7⟩; have HB7 := Lib.hid hb7; clear hb7))
    go_ret
    exact ⟨rfl, HB7.out⟩
  · obtain ⟨m1, m2⟩ := HM.out D HCD.out.1 (by omega)
    have HPC := Lib.hid (fun W => pass_any C s g n W)
    have HPD := Lib.hid (fun W => pass_any D s g n W)
    have HKC := Lib.hid (show ∀ W, Calls Try.prog 8 #[.int .i64 C] W fun e w' => e = .returned (.int .i64 C) ∧ w' = W from fun W => by
      have := cost_any C W; rwa [cost_self HT.out.1 HT.out.2] at this)
    have HKD := Lib.hid (show ∀ W, Calls Try.prog 8 #[.int .i64 D] W fun e w' => e = .returned (.int .i64 D) ∧ w' = W from fun W => by
      have := cost_any D W; rwa [cost_self HCD.out.2 (by omega)] at this)
    rw [← m1] at HPD
    obtain ⟨b, hb⟩ : ∃ b, passV C s g n = b := ⟨_, rfl⟩
    rw [hb] at HPC HPD m2
    clear m1 hb HM
    obtain ⟨x, hx⟩ : ∃ x, decide (C < D) = x := ⟨_, rfl⟩
    cases b with
    | false =>
      clear m2
      cases x with
      | false =>
        go_enter Try.func5, Try.ntmps5
        go_wp2_with (go_at_call 6; refine (HL.out _).mono ?_; rintro e w9 ⟨rfl, hw9⟩; rw [hw9]; clear hw9; go_wp2_with (go_at_call 10; refine (HPC.out _).mono ?_; rintro e w9 ⟨rfl, hw9⟩; rw [hw9]; clear hw9; go_wp2_with (go_at_call 10; refine (HPD.out _).mono ?_; rintro e w9 ⟨rfl, hw9⟩; rw [hw9]; clear hw9; go_wp2_with (go_at_call 8; refine (HKD.out _).mono ?_; rintro e w9 ⟨rfl, hw9⟩; rw [hw9]; clear hw9; go_wp2_with (go_at_call 8; refine (HKC.out _).mono ?_; rintro e w9 ⟨rfl, hw9⟩; rw [hw9]; clear hw9; go_wp2_with (go_at_call 12; refine (known28_any _).mono ?_; rintro e w7 ⟨rfl, hb7⟩; have HB7 := Lib.hid hb7; clear hb7))))))
        go_ret
        exact ⟨rfl, HB7.out⟩
      | true =>
        go_enter Try.func5, Try.ntmps5
        go_wp2_with (go_at_call 6; refine (HL.out _).mono ?_; rintro e w9 ⟨rfl, hw9⟩; rw [hw9]; clear hw9; go_wp2_with (go_at_call 10; refine (HPC.out _).mono ?_; rintro e w9 ⟨rfl, hw9⟩; rw [hw9]; clear hw9; go_wp2_with (go_at_call 10; refine (HPD.out _).mono ?_; rintro e w9 ⟨rfl, hw9⟩; rw [hw9]; clear hw9; go_wp2_with (go_at_call 8; refine (HKD.out _).mono ?_; rintro e w9 ⟨rfl, hw9⟩; rw [hw9]; clear hw9; go_wp2_with (go_at_call 8; refine (HKC.out _).mono ?_; rintro e w9 ⟨rfl, hw9⟩; rw [hw9]; clear hw9; go_wp2_with (go_at_call 12; refine (known28_any _).mono ?_; rintro e w7 ⟨rfl, hb7⟩; have HB7 := Lib.hid hb7; clear hb7))))))
        go_ret
        exact ⟨rfl, HB7.out⟩
    | true =>
      have m3 : g - 8 ≤ s - n := m2 rfl
      clear m2
      cases x with
      | false =>
        go_enter Try.func5, Try.ntmps5
        go_wp2_with (go_at_call 6; refine (HL.out _).mono ?_; rintro e w9 ⟨rfl, hw9⟩; rw [hw9]; clear hw9; go_wp2_with (go_at_call 10; refine (HPC.out _).mono ?_; rintro e w9 ⟨rfl, hw9⟩; rw [hw9]; clear hw9; go_wp2_with (go_at_call 10; refine (HPD.out _).mono ?_; rintro e w9 ⟨rfl, hw9⟩; rw [hw9]; clear hw9; go_wp2_with (go_at_call 8; refine (HKD.out _).mono ?_; rintro e w9 ⟨rfl, hw9⟩; rw [hw9]; clear hw9; go_wp2_with (go_at_call 8; refine (HKC.out _).mono ?_; rintro e w9 ⟨rfl, hw9⟩; rw [hw9]; clear hw9; go_wp2_with (go_at_call 12; refine (known28_any _).mono ?_; rintro e w7 ⟨rfl, hb7⟩; have HB7 := Lib.hid hb7; clear hb7))))))
        go_ret
        exact ⟨rfl, HB7.out⟩
      | true =>
        go_enter Try.func5, Try.ntmps5
        go_wp2_with (go_at_call 6; refine (HL.out _).mono ?_; rintro e w9 ⟨rfl, hw9⟩; rw [hw9]; clear hw9; go_wp2_with (go_at_call 10; refine (HPC.out _).mono ?_; rintro e w9 ⟨rfl, hw9⟩; rw [hw9]; clear hw9; go_wp2_with (go_at_call 10; refine (HPD.out _).mono ?_; rintro e w9 ⟨rfl, hw9⟩; rw [hw9]; clear hw9; go_wp2_with (go_at_call 8; refine (HKD.out _).mono ?_; rintro e w9 ⟨rfl, hw9⟩; rw [hw9]; clear hw9; go_wp2_with (go_at_call 8; refine (HKC.out _).mono ?_; rintro e w9 ⟨rfl, hw9⟩; rw [hw9]; clear hw9; go_wp2_with (go_at_call 12; refine (known28_any _).mono ?_; rintro e w7 ⟨rfl, hb7⟩; have HB7 := Lib.hid hb7; clear hb7))))))
        go_ret
        exact ⟨rfl, HB7.out⟩
end Go.Proofs.Ytnenmgefgdpkdaa.Bo
