/-
  For every list of objects and every place, LiveLess answers true: without an instruction that refers to something no function comes to be live that was not; conditions: none but those of the statement.
-/
import Derived.Test.YtdaimeaofgbfpaaGreatRows
import Derived.WalkKit
import Derived.ProofKit
import Derived.OpenShut
import Derived.ChangeOld
import Derived.Below
import Derived.Test.YtdaimeaofgbfpaaGreatLz2
import Derived.Test.YtdaimeaofgbfpaaGreatTq2
import Derived.Test.YtdaimeaofgbfpaaGreatTt2
namespace Go.Proofs.YtdaimeaofgbfpaaGreat.liveLess
open Go.ChangeShapes Go.WideShapes Go.ChangeAt Go.RowKit
set_option linter.unusedVariables false

theorem own : ownKnob Tryz.prog.godebug = none := by kernel_rfl
theorem laidOut : laidOutB Tryz.prog = true := by kernel_rfl

/-- THE WALK, of whatever came in. -/
theorem walk (a0 : Option Addr) (len0 cap0 : Nat) (os0 : List Bo.Oj) (xs0 : Nat → Nat → By.Fn) (ws0 : Nat → Nat → List Int) (rs0 : Nat → Nat → List By.Rl) (x1 y1 : Int) (w : World) (w0 : Bo.OjsI w a0 len0 cap0 os0 xs0 ws0 rs0) (w1 : (Lit.int .i64 x1).wf = true ∧ (Lit.int .i64 y1).wf = true) :
    Calls Tryz.prog 5 #[.slice a0 len0 cap0, .agg #[.int .i64 x1, .int .i64 y1]] w fun e w' => e = .returned (.bool true) ∧ Below w.heap.size w w' := by
  exact Bo.less26_any w a0 len0 cap0 os0 xs0 ws0 rs0 w0 x1 y1

set_option maxRecDepth 100000 in
theorem lifted (os : Os) (started : os.Started) (H : Type) (enc : TypeId × Value → H) :
    ReturnsInHanded {} Tryz.checked os 5 .any (Rows.liveLessSpec.pre6 enc Tryz.prog Tryz.f5 Rows.liveLessRow.domain false) (Rows.liveLessSpec.post enc Tryz.prog Tryz.f5 false true false false) := by
  refine returnsInHanded_of_change (C := Tryz.checked) own started (by kernel_rfl) Tryz.func5
    (ChangeSpec.witness6 (enc := enc) (C := Tryz.checked) false ⟨#[], #[.slice none 0 0, .agg #[.int .i64 0, .int .i64 0]], []⟩ 8 (by kernel_rfl) (by kernel_rfl) (by kernel_rfl) (by kernel_rfl)) ?_
  intro W base args ds gs before hval0 hW hcnd _
  have hval : ∀ (j : Nat) t v, Tryz.f5.params[j]? = some t → args[j]? = some v → Value.okWide Tryz.prog W .any base t v := hval0
  have hW' := hW
  obtain ⟨p, q, hA0, hV, rfl, hfz, hnd⟩ := hW
  have hA : DataW.TrodAll enc Tryz.prog W 0 (fun _ => true) true Tryz.f5.params.toList args.toList ds p := hA0
  rw [Tryz.params5] at hA hval
  obtain ⟨v0, vs0, d0, ds0, p0, q0, hargs, rfl, rfl, h0, r0⟩ := trodAll_cons hA
  obtain ⟨v1, vs1, d1, ds1, p1, q1, rfl, rfl, rfl, h1, r1⟩ := trodAll_cons r0
  obtain ⟨rfl, rfl, rfl⟩ := trodAll_nil r1
  obtain rfl : args = #[v0, v1] := by cases args; simp_all
  obtain ⟨rfl, rfl⟩ := trodVars_none hV
  obtain ⟨a0, len0, cap0, rfl⟩ := okWide_slice Tryz.underlying22 (hval 0 22 v0 rfl rfl)
  have k0 := h0
  have lt0 : ∀ x ∈ p0, x.block < W.heap.size := by obtain ⟨m, hm⟩ := k0; exact DataW.trod_lt m _ _ _ hm
  obtain ⟨os0, xs0, ws0, rs0, w0⟩ : ∃ os xs ws rs, Bo.OjsI W a0 len0 cap0 os xs ws rs := by
    obtain ⟨fuel, hf⟩ := h0
    exact Bo.ojs_of (by simpa [Value.cells] using hf)
  obtain ⟨x1, y1, rfl, rfl, w1, k1⟩ := Bo.arr2_of (hval 1 23 v1 rfl rfl) h1
  clear hA0 hval0
  refine (walk a0 len0 cap0 os0 xs0 ws0 rs0 x1 y1 W w0 w1).mono fun e W' ⟨he, bel⟩ => ?_
  subst he
  exact ⟨_, rfl, _, _, _, [], _, [], hW', trodAll_mk1 (shut_bool Tryz.underlying4 _), (trodAll_cons_mk (Below.trod laidOut (by kernel_rfl) (of_decide_eq_true (by kernel_rfl)) k0 bel lt0) (trodAll_cons_mk (k1 _ _ _ _) trodAll_mk0)), rfl, bel.frame _, fun h => by cases h⟩

theorem over : Rows.liveLessRow.holds Tryz.pinned (OpenSpec.ofChange Rows.liveLessSpec) :=
  OpenClaim.holds_of_wide 5 Tryz.f5 rfl rfl rfl rfl rfl rfl rfl ⟨rfl, rfl, rfl, rfl, rfl⟩ rfl rfl rfl rfl rfl (by kernel_rfl) Tryz.func5 (by kernel_rfl)
    (of_decide_eq_true (by kernel_rfl)) (by unfold Func.isWrapper; first | (rw [if_pos (by decide +kernel)]; kernel_rfl) | (rw [if_neg (by decide +kernel)]; exact ⟨rfl, rfl⟩))
    (fun os started H enc _ => lifted os started H enc)

/-- ████ THE STATEMENT ████ -/
theorem proved : Rows.LiveLessSaid := over
#print axioms proved
end Go.Proofs.YtdaimeaofgbfpaaGreat.liveLess
