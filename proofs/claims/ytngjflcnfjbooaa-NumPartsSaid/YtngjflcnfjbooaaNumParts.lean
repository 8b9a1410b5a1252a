/-
  PROVED: num.Do's quotient, times the divisor, and what is left, are the number again; what is left is nearer to 0 than the divisor and has the number's sign, for all numbers (P1.4). No condition.
-/
import Derived.Test.YtngjflcnfjbooaaRows
import Derived.WalkKit
import Derived.ProofKit
import Derived.OpenShut
import Derived.Lib.Hide
import Derived.Test.YtngjflcnfjbooaaKn
namespace Go.Proofs.Ytngjflcnfjbooaa.numParts
open Go.ChangeShapes Go.WideShapes Go.ChangeAt Go.RowKit
set_option linter.unusedVariables false      -- a walk need not use every 'w<i>' (that an integer argument fits its kind)

theorem own : ownKnob Try.prog.godebug = none := by kernel_rfl

/-! ### STEP 1: THE WALK: the Go text returns true. 'Grown w w'': the world has at most new blocks (Derived/RowKit3.lean). Part the cases AHEAD of 'go_enter' where a test parts the walk; take each callee by a contract of your own. -/
set_option maxHeartbeats 2000000 in
theorem walk (a0 : Int) (a1 : Int) (w0 : (Lit.int .i64 a0).wf = true) (w1 : (Lit.int .i64 a1).wf = true) (w : World) :
    Calls Try.prog 5 #[.int .i64 a0, .int .i64 a1] w fun e w' => e = .returned (.bool true) ∧ Grown w w' := by
  have b0 : -9223372036854775808 ≤ a0 ∧ a0 ≤ 9223372036854775807 := bounds_i64 w0
  by_cases hz : a1 = 0
  · subst hz
    have H1 := Lib.hid (Num.do_div0 a0)
    have H2 := Lib.hid (Num.do_mod0 a0)
    clear w0 w1 b0
    go_enter Try.func5, Try.ntmps5
    go_wp2_with fail
    refine (H1.out _).mono ?_
    rintro e u1 ⟨rfl, g1⟩
    go_wp2_with fail
    refine (H2.out _).mono ?_
    rintro e u2 ⟨rfl, g2⟩
    go_wp2_with fail
    refine (Num.known_any _).mono ?_
    rintro e u3 ⟨rfl, g3⟩
    go_wp2_with fail
    go_ret
    exact ⟨rfl, Num.grown_trans g1 (Num.grown_trans g2 g3)⟩
  · have b1 : -9223372036854775808 ≤ a1 ∧ a1 ≤ 9223372036854775807 := bounds_i64 w1
    have hc : (a1 == 0) = false := by simpa using hz
    have H1 := Lib.hid (Num.do_div a0 a1 hc hz)
    have H2 := Lib.hid (Num.do_mod a0 a1 hc hz)
    have hp := Num.near_pos a0 a1
    have hn := Num.near_neg a0 a1
    have sn := Num.sign_neg a0 a1
    have sp := Num.sign_pos a0 a1
    have ha := Num.again a0 a1 b0
    have hbd := Num.tmod_bd a0 a1 b0
    clear w0 w1
    generalize wrap64 (a0.tdiv a1) = q at H1 ha
    generalize a0.tmod a1 = r at H2 hp hn sn sp ha hbd
    have he : (wrap64 (wrap64 (q * a1) + r) == a0) = true := by simpa using ha
    clear ha
    have hd : (a1 == -9223372036854775808) = true ∨ (0 < a1 ∧ (a1 == -9223372036854775808) = false ∧ r < a1 ∧ -a1 < r) ∨ (a1 < 0 ∧ (a1 == -9223372036854775808) = false ∧ -9223372036854775808 < a1 ∧ a1 < r ∧ r < -a1) := by
      simp only [beq_iff_eq, beq_eq_false_iff_ne]
      omega
    have hs : (r == 0) = true ∨ ((r == 0) = false ∧ r < 0 ∧ a0 < 0) ∨ ((r == 0) = false ∧ ¬ r < 0 ∧ ¬ a0 < 0) := by
      simp only [beq_iff_eq, beq_eq_false_iff_ne]
      omega
    clear hp hn sn sp hz b0
    rcases hd with d1 | ⟨d1, d2, d3, d4⟩ | ⟨d1, d2, d3, d4, d5⟩
    all_goals
      rcases hs with s1 | ⟨s1, s2, s3⟩ | ⟨s1, s2, s3⟩
      all_goals
        go_enter Try.func5, Try.ntmps5
        go_wp2_with fail
        refine (H1.out _).mono ?_
        rintro e u1 ⟨rfl, g1⟩
        go_wp2_with fail
        refine (H2.out _).mono ?_
        rintro e u2 ⟨rfl, g2⟩
        go_wp2_with fail
        refine (Num.known_any _).mono ?_
        rintro e u3 ⟨rfl, g3⟩
        go_wp2_with fail
        go_ret
        exact ⟨rfl, Num.grown_trans g1 (Num.grown_trans g2 g3)⟩

/-! ### THE ROW's STEP: WRITTEN OUT: LEAVE IT -/
set_option maxRecDepth 100000 in
theorem lifted (os : Os) (started : os.Started) (H : Type) (enc : TypeId × Value → H) :
    ReturnsInHanded {} Try.checked os 5 .any (Rows.numPartsSpec.pre6 enc Try.prog Try.f5 Rows.numPartsRow.domain false) (Rows.numPartsSpec.post enc Try.prog Try.f5 false true false false) := by
  refine returnsInHanded_of_change (C := Try.checked) own started (by kernel_rfl) Try.func5
    (ChangeSpec.witness6 (enc := enc) (C := Try.checked) false ⟨#[], #[.int .i64 0, .int .i64 0], []⟩ 8 (by kernel_rfl) (by kernel_rfl) (by kernel_rfl) (by kernel_rfl)) ?_
  intro W base args ds gs before hval0 hW hcnd _
  have hval : ∀ (j : Nat) t v, Try.f5.params[j]? = some t → args[j]? = some v → Value.okWide Try.prog W .any base t v := hval0
  have hW' := hW
  obtain ⟨p, q, hA0, hV, rfl, hfz, hnd⟩ := hW
  have hA : DataW.TrodAll enc Try.prog W 0 (fun _ => true) true Try.f5.params.toList args.toList ds p := hA0
  rw [Try.params5] at hA hval
  obtain ⟨v0, vs0, d0, ds0, p0, q0, hargs, rfl, rfl, h0, r0⟩ := trodAll_cons hA
  obtain ⟨v1, vs1, d1, ds1, p1, q1, rfl, rfl, rfl, h1, r1⟩ := trodAll_cons r0
  obtain ⟨rfl, rfl, rfl⟩ := trodAll_nil r1
  obtain rfl : args = #[v0, v1] := by cases args; simp_all
  obtain ⟨rfl, rfl⟩ := trodVars_none hV
  obtain ⟨a0, rfl, rfl, rfl, w0⟩ := open_int Try.underlying2 (hval 0 2 v0 rfl rfl) h0
  obtain ⟨a1, rfl, rfl, rfl, w1⟩ := open_int Try.underlying2 (hval 1 2 v1 rfl rfl) h1
  clear hA0 hval0
  simp only [List.append_nil] at hW'
  refine (walk a0 a1 w0 w1 W).mono fun e W' ⟨he, hg⟩ => ?_
  subst he
  exact ⟨_, rfl, post_of_same (pa := []) (pv := []) hW' (fun _ _ _ => (trodAll_cons_mk (shut_bool Try.underlying4 _) trodAll_mk0)) (fun sp _ => (trodAll_cons_mk (shut_int Try.underlying2 w0) (trodAll_cons_mk (shut_int Try.underlying2 w1) trodAll_mk0))) (fun _ _ => rfl) rfl
    (hg.frame _) hg.2.1 (ok_one (by kernel_rfl) rfl (okWide_bool_mk Try.underlying4 _))⟩

theorem over : Rows.numPartsRow.holds Try.pinned (OpenSpec.ofChange Rows.numPartsSpec) :=
  OpenClaim.holds_of_wide 5 Try.f5 rfl rfl rfl rfl rfl rfl rfl ⟨rfl, rfl, rfl, rfl, rfl⟩ rfl rfl rfl rfl rfl (by kernel_rfl) Try.func5 (by kernel_rfl)
    (of_decide_eq_true (by kernel_rfl)) (by unfold Func.isWrapper; first | (rw [if_pos (by decide +kernel)]; kernel_rfl) | (rw [if_neg (by decide +kernel)]; exact ⟨rfl, rfl⟩))
    (fun os started H enc _ => lifted os started H enc)

/-- ████ THE STATEMENT ████ -/
theorem proved : Rows.NumPartsSaid :=
  over
#print axioms proved
end Go.Proofs.Ytngjflcnfjbooaa.numParts
