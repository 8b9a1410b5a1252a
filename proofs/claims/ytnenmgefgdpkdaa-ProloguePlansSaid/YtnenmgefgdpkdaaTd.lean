/-
  WALKS of layer 28: classes of checks, and whether they pass: the program's, and the document's.
-/
import Derived.Test.YtnenmgefgdpkdaaQa
namespace Go.Proofs.Ytnenmgefgdpkdaa.Bo
open Go.RowKit
open Mem Rf
set_option linter.unusedSimpArgs false
set_option linter.unusedVariables false

def leastV (f : Int) : Int := if f ≤ 8 then 1 else if f ≤ 64 then 2 else 3
def costV (c : Int) : Int := if 1 ≤ c ∧ c ≤ 3 then c else 0
theorem least_any (f : Int) (w : World) : Calls Try.prog 6 #[.int .i64 f] w fun e w' => e = .returned (.int .i64 (leastV f)) ∧ w' = w := by
  unfold leastV
  by_cases h1 : f ≤ 8
  · rw [if_pos h1]
    go_enter Try.func6, Try.ntmps6
    go_wp2_with fail
    go_ret
    exact ⟨rfl, rfl⟩
  · rw [if_neg h1]
    by_cases h2 : f ≤ 64
    · rw [if_pos h2]
      go_enter Try.func6, Try.ntmps6
      go_wp2_with fail
      go_ret
      exact ⟨rfl, rfl⟩
    · rw [if_neg h2]
      go_enter Try.func6, Try.ntmps6
      go_wp2_with fail
      go_ret
      exact ⟨rfl, rfl⟩
theorem rleast_any (f : Int) (w : World) : Calls Try.prog 7 #[.int .i64 f] w fun e w' => e = .returned (.int .i64 (leastV f)) ∧ w' = w := by
  unfold leastV
  by_cases h1 : f ≤ 8
  · rw [if_pos h1]
    go_enter Try.func7, Try.ntmps7
    go_wp2_with fail
    go_ret
    exact ⟨rfl, rfl⟩
  · rw [if_neg h1]
    by_cases h2 : f ≤ 64
    · rw [if_pos h2]
      go_enter Try.func7, Try.ntmps7
      go_wp2_with fail
      go_ret
      exact ⟨rfl, rfl⟩
    · rw [if_neg h2]
      go_enter Try.func7, Try.ntmps7
      go_wp2_with fail
      go_ret
      exact ⟨rfl, rfl⟩
theorem cost_any (c : Int) (w : World) : Calls Try.prog 8 #[.int .i64 c] w fun e w' => e = .returned (.int .i64 (costV c)) ∧ w' = w := by
  by_cases h1 : c < 0
  · rw [show costV c = 0 from if_neg (by omega)]
    go_enter Try.func8, Try.ntmps8
    go_wp2_with fail
    go_ret
    exact ⟨rfl, rfl⟩
  · by_cases h2 : 3 < c
    · rw [show costV c = 0 from if_neg (by omega)]
      go_enter Try.func8, Try.ntmps8
      go_wp2_with fail
      go_ret
      exact ⟨rfl, rfl⟩
    · have HC := Lib.hid (show costV c = c from by
        unfold costV
        by_cases h : 1 ≤ c
        · rw [if_pos ⟨h, by omega⟩]
        · rw [if_neg (by omega)]; omega)
      go_enter Try.func8, Try.ntmps8
      go_wp2_with fail
      go_ret
      exact ⟨by rw [HC.out]; rfl, rfl⟩
theorem rcost_any (c : Int) (w : World) : Calls Try.prog 9 #[.int .i64 c] w fun e w' => e = .returned (.int .i64 (costV c)) ∧ w' = w := by
  by_cases h1 : c < 1
  · rw [show costV c = 0 from if_neg (by omega)]
    go_enter Try.func9, Try.ntmps9
    go_wp2_with fail
    go_ret
    exact ⟨rfl, rfl⟩
  · by_cases h2 : 3 < c
    · rw [show costV c = 0 from if_neg (by omega)]
      go_enter Try.func9, Try.ntmps9
      go_wp2_with fail
      go_ret
      exact ⟨rfl, rfl⟩
    · have HC := Lib.hid (show costV c = c from if_pos (by omega))
      go_enter Try.func9, Try.ntmps9
      go_wp2_with fail
      go_ret
      exact ⟨by rw [HC.out]; rfl, rfl⟩
def roomE (s g f : Int) : Bool := decide (IntKind.u64.wrap (wrap64 (f - 8)) ≤ IntKind.u64.wrap (IntKind.u64.wrap s - IntKind.u64.wrap g))
def roomV (s g f : Int) : Bool := if f ≤ 8 then true else roomE s g f
def passV (c s g f : Int) : Bool := if c = 0 then true else if c < 0 ∨ 3 < c ∨ s < g then false else if c = 1 ∨ f ≤ 8 then true else roomE s g f
theorem room_any (s g f : Int) (w : World) : Calls Try.prog 23 #[.int .i64 s, .int .i64 g, .int .i64 f] w fun e w' => e = .returned (.bool (roomV s g f)) ∧ w' = w := by
  by_cases h1 : f ≤ 8
  · rw [show roomV s g f = true from if_pos h1]
    go_enter Try.func23, Try.ntmps23
    go_wp2_with fail
    go_ret
    exact ⟨rfl, rfl⟩
  · rw [show roomV s g f = roomE s g f from if_neg h1]
    go_enter Try.func23, Try.ntmps23
    go_wp2_with fail
    go_ret
    exact ⟨rfl, rfl⟩
theorem pass_any (c s g f : Int) (w : World) : Calls Try.prog 10 #[.int .i64 c, .int .i64 s, .int .i64 g, .int .i64 f] w fun e w' => e = .returned (.bool (passV c s g f)) ∧ w' = w := by
  by_cases h0 : c = 0
  · subst h0
    go_enter Try.func10, Try.ntmps10
    go_wp2_with fail
    go_ret
    exact ⟨rfl, rfl⟩
  · by_cases h1 : c < 0 ∨ 3 < c
    · rw [show passV c s g f = false from by unfold passV; rw [if_neg h0, if_pos (by omega)]]
      have e0 : (c == 0) = false := by simpa using h0
      have e1 : (c == 1) = false := by simp; omega
      have e2 : (c == 2) = false := by simp; omega
      have e3 : (c == 3) = false := by simp; omega
      clear h0 h1
      go_enter Try.func10, Try.ntmps10
      go_wp2_with fail
      go_ret
      exact ⟨rfl, rfl⟩
    · by_cases h2 : c = 1
      · subst h2
        by_cases h3 : s < g
        · rw [show passV 1 s g f = false from by unfold passV; rw [if_neg (by omega), if_pos (by omega)]]
          go_enter Try.func10, Try.ntmps10
          go_wp2_with fail
          go_ret
          exact ⟨rfl, rfl⟩
        · rw [show passV 1 s g f = true from by unfold passV; rw [if_neg (by omega), if_neg (by omega), if_pos (by omega)]]
          go_enter Try.func10, Try.ntmps10
          go_wp2_with fail
          go_ret
          exact ⟨rfl, rfl⟩
      · have HV := Lib.hid (show passV c s g f = (if s < g then false else roomV s g f) from by
          unfold passV roomV
          by_cases h3 : s < g
          · rw [if_neg h0, if_pos (by omega), if_pos h3]
          · rw [if_neg h0, if_neg (by omega), if_neg h3]
            by_cases h4 : f ≤ 8
            · rw [if_pos (by omega), if_pos h4]
            · rw [if_neg (by omega), if_neg h4])
        rw [HV.out]
        have HR := Lib.hid (fun W => room_any s g f W)
        obtain ⟨b, hb⟩ : ∃ b, roomV s g f = b := ⟨_, rfl⟩
        rw [hb] at HR ⊢
        clear hb HV
        have e0 : (c == 0) = false := by simpa using h0
        have e1 : (c == 1) = false := by simpa using h2
        have hc : c = 2 ∨ c = 3 := by omega
        clear h0 h1 h2
        rcases hc with rfl | rfl
        · by_cases h3 : s < g
          · rw [if_pos h3]
            cases b with
            | false =>
              go_enter Try.func10, Try.ntmps10
              go_wp2_with (go_at_call 23; refine (HR.out _).mono ?_; rintro e w2 ⟨rfl, rfl⟩)
              go_ret
              exact ⟨rfl, rfl⟩
            | true =>
              go_enter Try.func10, Try.ntmps10
              go_wp2_with (go_at_call 23; refine (HR.out _).mono ?_; rintro e w2 ⟨rfl, rfl⟩)
              go_ret
              exact ⟨rfl, rfl⟩
          · rw [if_neg h3]
            cases b with
            | false =>
              go_enter Try.func10, Try.ntmps10
              go_wp2_with (go_at_call 23; refine (HR.out _).mono ?_; rintro e w2 ⟨rfl, rfl⟩)
              go_ret
              exact ⟨rfl, rfl⟩
            | true =>
              go_enter Try.func10, Try.ntmps10
              go_wp2_with (go_at_call 23; refine (HR.out _).mono ?_; rintro e w2 ⟨rfl, rfl⟩)
              go_ret
              exact ⟨rfl, rfl⟩
        · by_cases h3 : s < g
          · rw [if_pos h3]
            cases b with
            | false =>
              go_enter Try.func10, Try.ntmps10
              go_wp2_with (go_at_call 23; refine (HR.out _).mono ?_; rintro e w2 ⟨rfl, rfl⟩)
              go_ret
              exact ⟨rfl, rfl⟩
            | true =>
              go_enter Try.func10, Try.ntmps10
              go_wp2_with (go_at_call 23; refine (HR.out _).mono ?_; rintro e w2 ⟨rfl, rfl⟩)
              go_ret
              exact ⟨rfl, rfl⟩
          · rw [if_neg h3]
            cases b with
            | false =>
              go_enter Try.func10, Try.ntmps10
              go_wp2_with (go_at_call 23; refine (HR.out _).mono ?_; rintro e w2 ⟨rfl, rfl⟩)
              go_ret
              exact ⟨rfl, rfl⟩
            | true =>
              go_enter Try.func10, Try.ntmps10
              go_wp2_with (go_at_call 23; refine (HR.out _).mono ?_; rintro e w2 ⟨rfl, rfl⟩)
              go_ret
              exact ⟨rfl, rfl⟩
theorem rpass_any (c s g f : Int) (w : World) : Calls Try.prog 11 #[.int .i64 c, .int .i64 s, .int .i64 g, .int .i64 f] w fun e w' => e = .returned (.bool (passV c s g f)) ∧ w' = w := by
  by_cases h0 : c = 0
  · subst h0
    go_enter Try.func11, Try.ntmps11
    go_wp2_with fail
    go_ret
    exact ⟨rfl, rfl⟩
  · have e0 : (c == 0) = false := by simpa using h0
    by_cases h1 : c < 0
    · rw [show passV c s g f = false from by unfold passV; rw [if_neg h0, if_pos (by omega)]]
      clear h0
      go_enter Try.func11, Try.ntmps11
      go_wp2_with fail
      go_ret
      exact ⟨rfl, rfl⟩
    · by_cases h2 : 3 < c
      · rw [show passV c s g f = false from by unfold passV; rw [if_neg h0, if_pos (by omega)]]
        clear h0
        go_enter Try.func11, Try.ntmps11
        go_wp2_with fail
        go_ret
        exact ⟨rfl, rfl⟩
      · by_cases h3 : s < g
        · rw [show passV c s g f = false from by unfold passV; rw [if_neg h0, if_pos (by omega)]]
          clear h0
          go_enter Try.func11, Try.ntmps11
          go_wp2_with fail
          go_ret
          exact ⟨rfl, rfl⟩
        · by_cases h4 : c = 1
          · rw [show passV c s g f = true from by unfold passV; rw [if_neg h0, if_neg (by omega), if_pos (by omega)]]
            clear e0 h0
            subst h4
            go_enter Try.func11, Try.ntmps11
            go_wp2_with fail
            go_ret
            exact ⟨rfl, rfl⟩
          · have e1 : (c == 1) = false := by simpa using h4
            by_cases h5 : f ≤ 8
            · rw [show passV c s g f = true from by unfold passV; rw [if_neg h0, if_neg (by omega), if_pos (by omega)]]
              clear h0 h4
              go_enter Try.func11, Try.ntmps11
              go_wp2_with fail
              go_ret
              exact ⟨rfl, rfl⟩
            · rw [show passV c s g f = roomE s g f from by unfold passV; rw [if_neg h0, if_neg (by omega), if_neg (by omega)]]
              clear h0 h4
              go_enter Try.func11, Try.ntmps11
              go_wp2_with fail
              go_ret
              exact ⟨rfl, rfl⟩

theorem room_small {s g f : Int} (hs : 0 ≤ s ∧ s ≤ 65535) (hg : 0 ≤ g ∧ g ≤ 65535) (hf : 0 ≤ f ∧ f ≤ 65535) (h1 : ¬ s < g) (h2 : ¬ f ≤ 8) : roomE s g f = decide (f - 8 ≤ s - g) := by
  unfold roomE
  rw [show wrap64 (f - 8) = f - 8 from by unfold wrap64; omega, IntWalk.u64_in (f - 8) (by omega), IntWalk.u64_in s (by omega), IntWalk.u64_in g (by omega), IntWalk.u64_in (s - g) (by omega)]
end Go.Proofs.Ytnenmgefgdpkdaa.Bo
