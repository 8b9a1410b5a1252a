/-
  THE LAW VerifyMore.
-/
import Derived.Test.YtbknmapkdjmcjaaGreatDoorCards
import Derived.Test.YtbknmapkdjmcjaaGreatDoorTie
import Derived.WalkKit
import Derived.ProofKit
import Derived.OpenShut
import Derived.ShutString
import Derived.ChangeOld
import Derived.Below
import Derived.Deep.DeepHandedRow
import Derived.Lib.LaidTab
import Derived.Stop.LaidErr
import Derived.SliceStrings
import Derived.Shelf.Vars
import Derived.Test.YtbknmapkdjmcjaaGreatDoorNd
import Derived.Test.YtbknmapkdjmcjaaGreatDoorNo
namespace Go.Proofs.YtbknmapkdjmcjaaGreatDoor.verifyMore
open Go.ChangeShapes Go.WideShapes Go.ChangeAt Go.RowKit
open Go.ChangeMaps (open_string shut_string)
set_option linter.unusedVariables false
set_option maxRecDepth 100000

theorem own : ownKnob Tryz.prog.godebug = none := by kernel_rfl
theorem laidOut : laidOutB Tryz.prog = true := by kernel_rfl
theorem t_laid_sheerleg_op_names {W : World} (h : laidMetH Tryz.prog Rows.verifyMoreRow.laid W) : ∀ (i : Nat) (s : List UInt8), (By.nms)[i]? = some s → W.cell? ⟨2, i, none⟩ = some (.string ⟨s.toArray⟩) :=
  By.cells_of_head (g := 2) (n := 29) (ss := By.nms) (name := "sheerleg/op.names") (by kernel_rfl) (by kernel_rfl) Tryz.underlying287 Tryz.underlying9 (by kernel_rfl) (by kernel_rfl) ((show laidMet _ _ _ from h))
theorem t_laid_sheerleg_op_shapes {W : World} (h : laidMetH Tryz.prog Rows.verifyMoreRow.laid W) : ∀ (i : Nat) (s : List UInt8), (By.shs)[i]? = some s → W.cell? ⟨0, i, none⟩ = some (.string ⟨s.toArray⟩) :=
  By.cells_of_head (g := 0) (n := 25) (ss := By.shs) (name := "sheerleg/op.shapes") (by kernel_rfl) (by kernel_rfl) Tryz.underlying241 Tryz.underlying9 (by kernel_rfl) (by kernel_rfl) ((show laidMet _ _ _ from h).tail)
theorem t_laid_sheerleg_sig_texts {W : World} (h : laidMetH Tryz.prog Rows.verifyMoreRow.laid W) : ∀ (i : Nat) (s : List UInt8), (Si.txs)[i]? = some s → W.cell? ⟨1, i, none⟩ = some (.string ⟨s.toArray⟩) :=
  By.cells_of_head (g := 1) (n := 9) (ss := Si.txs) (name := "sheerleg/sig.texts") (by kernel_rfl) (by kernel_rfl) Tryz.underlying286 Tryz.underlying9 (by kernel_rfl) (by kernel_rfl) ((show laidMet _ _ _ from h).tail.tail)

/-- WHAT THE ROW's LIST GIVES. -/
theorem table {W : World} (h : laidMetH Tryz.prog Rows.verifyMoreRow.laid W) : By.TX3 W :=
  ⟨⟨fun i hi => t_laid_sheerleg_op_names h i _ (By.getD_some By.nms i hi), fun i hi => t_laid_sheerleg_op_shapes h i _ (By.getD_some By.shs i hi)⟩, fun i hi => t_laid_sheerleg_sig_texts h i _ (By.getD_some Si.txs i hi)⟩

/-- WHAT THE WALK GIVES, FOR EVERY ARGUMENT AND EVERY WORLD THAT HOLDS THE TABLES. -/
theorem contract (H : Type) (enc : TypeId × Value → H) (W : World) (base : Nat) (args : Array Value) (ds gs : List (DataW H)) (before : List MemPlace)
    (hval : ∀ (j : Nat) t v, Tryz.f8.params[j]? = some t → args[j]? = some v → Value.okWide Tryz.prog W .any base t v)
    (hW : DataW.Whole enc Tryz.prog Tryz.f8.params.toList Rows.verifyMoreSpec.vars false W args.toList ds gs before) (hL : laidMetH Tryz.prog Rows.verifyMoreRow.laid W) :
    Calls Tryz.prog 8 args W fun e W' => ∃ v, e = .returned v ∧ Rows.verifyMoreSpec.post enc Tryz.prog Tryz.f8 false true false false W args v W' := by
  have hW' := hW
  obtain ⟨p, q, hA0, hV, rfl, hfz, hnd⟩ := hW
  have hA : DataW.TrodAll enc Tryz.prog W 0 (fun _ => true) true Tryz.f8.params.toList args.toList ds p := hA0
  rw [Tryz.params8] at hA hval
  obtain ⟨v0, vs0, d0, ds0, p0, q0, hargs, rfl, rfl, h0, r0⟩ := trodAll_cons hA
  obtain ⟨v1, vs1, d1, ds1, p1, q1, rfl, rfl, rfl, h1, r1⟩ := trodAll_cons r0
  obtain ⟨v2, vs2, d2, ds2, p2, q2, rfl, rfl, rfl, h2, r2⟩ := trodAll_cons r1
  obtain ⟨rfl, rfl, rfl⟩ := trodAll_nil r2
  obtain rfl : args = #[v0, v1, v2] := by cases args; simp_all
  obtain ⟨rfl, rfl⟩ := trodVars_none hV
  have k0 := h0
  have lt0 : ∀ x ∈ p0, x.block < W.heap.size := by obtain ⟨m, hm⟩ := k0; exact DataW.trod_lt m _ _ _ hm
  obtain ⟨AK0, nK0, cK0, AL0, nL0, cL0, AC0, nC0, cC0, AR0, nR0, cR0, x0, rfl, hF0, hB0⟩ := By.open_fn (hval 0 27 v0 rfl rfl) h0
  obtain ⟨a1, len1, cap1, rfl⟩ := okWide_slice Tryz.underlying49 (hval 1 49 v1 rfl rfl)
  have k1 := h1
  have lt1 : ∀ x ∈ p1, x.block < W.heap.size := by obtain ⟨m, hm⟩ := k1; exact DataW.trod_lt m _ _ _ hm
  obtain ⟨l1, ll1, w1, b1⟩ := By.open_syms h1
  obtain ⟨a2, len2, cap2, rfl⟩ := okWide_slice Tryz.underlying49 (hval 2 49 v2 rfl rfl)
  have k2 := h2
  have lt2 : ∀ x ∈ p2, x.block < W.heap.size := by obtain ⟨m, hm⟩ := k2; exact DataW.trod_lt m _ _ _ hm
  obtain ⟨l2, ll2, w2, b2⟩ := By.open_syms h2
  clear hA0
  simp only [List.append_nil] at hW'
  have ht := table hL
  have h3 : 3 ≤ W.heap.size := World.block_lt_of_cell? W _ (ht.1.1 0 (by decide))
  have walk : Calls Tryz.prog 8 #[.agg #[.int .i64 x0.k, .slice AK0 nK0 cK0, .int .i64 x0.pd, .bool x0.ns, .int .i64 x0.f, .int .i64 x0.t, .slice AL0 nL0 cL0, .slice AC0 nC0 cC0, .slice AR0 nR0 cR0], .slice a1 len1 cap1, .slice a2 len2 cap2] W fun e w' => e = .returned (.bool true) ∧ Below W.heap.size W w' := by
    exact By.verifyMore_any W AK0 AL0 AC0 AR0 nK0 cK0 nL0 cL0 nC0 cC0 nR0 cR0 x0 hF0 a1 len1 cap1 l1 w1 b1 a2 len2 cap2 l2 w2 b2 ht
  refine walk.mono fun e W' ⟨he, bel⟩ => ?_
  subst he
  exact ⟨_, rfl, _, _, _, [], _, [], hW', trodAll_mk1 (shut_bool Tryz.underlying4 _), (trodAll_cons_mk (Below.trod laidOut (by kernel_rfl) (of_decide_eq_true (by kernel_rfl)) k0 bel lt0) (trodAll_cons_mk (Below.trod laidOut (by kernel_rfl) (of_decide_eq_true (by kernel_rfl)) k1 bel lt1) (trodAll_cons_mk (Below.trod laidOut (by kernel_rfl) (of_decide_eq_true (by kernel_rfl)) k2 bel lt2) trodAll_mk0))), rfl, bel.frame _, fun h => by cases h⟩

/-- A WORLD FOR THE WITNESS: the settled one, the tables holding what their initialisers lay. -/
def lay1 (cs : Array Value) : Obj → Obj
  | .cells _ t frozen => .cells cs t frozen
  | o => o
noncomputable def low : Nat := (World.holding Tryz.prog default ⟨#[], #[], []⟩).heap.size
noncomputable def laidWorld (os : Os) : World := { World.holding Tryz.prog os ⟨#[], #[], []⟩ with heap := (((((((World.holding Tryz.prog os ⟨#[], #[], []⟩).heap).modify 2 (lay1 #[.string ⟨#[]⟩, .string ⟨#[110, 111, 112]⟩, .string ⟨#[115, 101, 116]⟩, .string ⟨#[109, 111, 118, 101]⟩, .string ⟨#[97, 100, 100]⟩, .string ⟨#[115, 117, 98]⟩, .string ⟨#[109, 117, 108]⟩, .string ⟨#[100, 105, 118]⟩, .string ⟨#[109, 111, 100]⟩, .string ⟨#[108, 101, 115, 115]⟩, .string ⟨#[115, 97, 109, 101]⟩, .string ⟨#[106, 117, 109, 112]⟩, .string ⟨#[122, 101, 114, 111]⟩, .string ⟨#[105, 110]⟩, .string ⟨#[111, 117, 116]⟩, .string ⟨#[108, 111, 97, 100]⟩, .string ⟨#[115, 116, 111, 114, 101]⟩, .string ⟨#[102, 117, 110, 99]⟩, .string ⟨#[112, 105, 99, 107]⟩, .string ⟨#[99, 97, 108, 108]⟩, .string ⟨#[118, 105, 97]⟩, .string ⟨#[100, 101, 102, 101, 114]⟩, .string ⟨#[112, 97, 110, 105, 99]⟩, .string ⟨#[114, 101, 99, 111, 118, 101, 114]⟩, .string ⟨#[114, 101, 116, 117, 114, 110]⟩, .string ⟨#[99, 104, 101, 99, 107]⟩, .string ⟨#[101, 110, 116, 101, 114]⟩, .string ⟨#[98, 111, 116, 116, 111, 109]⟩, .string ⟨#[100, 114, 105, 118, 101, 114]⟩]))).modify 0 (lay1 #[.string ⟨#[]⟩, .string ⟨#[45, 45, 45, 45]⟩, .string ⟨#[119, 45, 45, 110]⟩, .string ⟨#[119, 114, 45, 45]⟩, .string ⟨#[119, 114, 114, 45]⟩, .string ⟨#[119, 114, 114, 45]⟩, .string ⟨#[119, 114, 114, 45]⟩, .string ⟨#[119, 114, 114, 45]⟩, .string ⟨#[119, 114, 114, 45]⟩, .string ⟨#[119, 114, 114, 45]⟩, .string ⟨#[119, 114, 114, 45]⟩, .string ⟨#[45, 45, 45, 116]⟩, .string ⟨#[114, 45, 45, 116]⟩, .string ⟨#[119, 45, 45, 45]⟩, .string ⟨#[114, 45, 45, 45]⟩, .string ⟨#[119, 114, 45, 45]⟩, .string ⟨#[114, 114, 45, 45]⟩, .string ⟨#[103, 45, 45, 45]⟩, .string ⟨#[103, 114, 45, 45]⟩, .string ⟨#[99, 45, 45, 45]⟩, .string ⟨#[99, 102, 107, 45]⟩, .string ⟨#[100, 45, 45, 45]⟩, .string ⟨#[114, 45, 45, 45]⟩, .string ⟨#[119, 119, 45, 45]⟩, .string ⟨#[118, 45, 45, 45]⟩]))).modify 1 (lay1 #[.string ⟨#[110]⟩, .string ⟨#[102, 48]⟩, .string ⟨#[102, 48, 114]⟩, .string ⟨#[102, 49]⟩, .string ⟨#[102, 49, 114]⟩, .string ⟨#[102, 50]⟩, .string ⟨#[102, 50, 114]⟩, .string ⟨#[102, 51]⟩, .string ⟨#[102, 51, 114]⟩])) }
theorem laid_met (os : Os) : laidMet Tryz.prog Rows.verifyMoreRow.laid ((laidWorld os).forCall (fun _ _ => 0) ⟨#[], #[.agg #[.int .i64 0, .slice none 0 0, .int .i64 0, .bool false, .int .i64 0, .int .i64 0, .slice none 0 0, .slice none 0 0, .slice none 0 0], .slice none 0 0, .slice none 0 0], []⟩).memory :=
  laidMet_of_run' 8 (by kernel_rfl) (by kernel_rfl)
theorem reads (os : Os) {H : Type} (enc : TypeId × Value → H) : ∃ places, DataW.whole enc Tryz.prog ((laidWorld os).forCall (fun _ _ => 0) ⟨#[], #[.agg #[.int .i64 0, .slice none 0 0, .int .i64 0, .bool false, .int .i64 0, .int .i64 0, .slice none 0 0, .slice none 0 0, .slice none 0 0], .slice none 0 0, .slice none 0 0], []⟩).memory Tryz.f8.params.toList Rows.verifyMoreSpec.vars false (#[.agg #[.int .i64 0, .slice none 0 0, .int .i64 0, .bool false, .int .i64 0, .int .i64 0, .slice none 0 0, .slice none 0 0, .slice none 0 0], .slice none 0 0, .slice none 0 0] : Array Value).toList 8 = some ([.agg [.lit (.int .i64 0), .nil, .lit (.int .i64 0), .lit (.bool false), .lit (.int .i64 0), .lit (.int .i64 0), .nil, .nil, .nil], .nil, .nil], [], places) :=
  ⟨[], by kernel_rfl⟩

theorem lifted (os : Os) (started : os.Started) (H : Type) (enc : TypeId × Value → H) (F : Stop.Interp) :
    ReturnsInHanded {} Tryz.checked os 8 .any ((OpenSpec.ofChange Rows.verifyMoreSpec).preRow enc Tryz.prog Tryz.f8 Rows.verifyMoreRow.domain false Rows.verifyMoreRow.laid) (((OpenSpec.ofChange Rows.verifyMoreSpec).at F).post enc Tryz.prog Tryz.f8 false true false false) := by
  obtain ⟨places, hx⟩ := reads os enc
  refine returnsInHanded_of_row (C := Tryz.checked) (s := OpenSpec.ofChange Rows.verifyMoreSpec) own started (by kernel_rfl) Tryz.func8
    (witness_row_at (enc := enc) (C := Tryz.checked) false (laidWorld os) #[.agg #[.int .i64 0, .slice none 0 0, .int .i64 0, .bool false, .int .i64 0, .int .i64 0, .slice none 0 0, .slice none 0 0, .slice none 0 0], .slice none 0 0, .slice none 0 0] rfl (by kernel_rfl) (by kernel_rfl) (by kernel_rfl)
      (OpenSpec.preRow_of_cond 8 hx (by kernel_rfl) (fun k hk => by cases hk) (by kernel_rfl) (laid_met os))) ?_
  intro W base args ds gs before hval hW _ _ _ hL hS _
  exact contract H enc W base args ds gs before hval hW hL

theorem said : Rows.VerifyMoreSaid :=
  OpenClaim.holds_of_cond 8 Tryz.f8 rfl rfl rfl rfl rfl rfl rfl ⟨rfl, rfl, rfl, rfl, rfl⟩ rfl rfl rfl rfl rfl (by kernel_rfl) Tryz.func8 Bq.jr
    (of_decide_eq_true (by kernel_rfl)) (by unfold Func.isWrapper; first | (rw [if_pos (by decide +kernel)]; kernel_rfl) | (rw [if_neg (by decide +kernel)]; exact ⟨rfl, rfl⟩))
    (fun os started H enc _ F => by rw [OpenClaim.pre_eq_preRow]; exact lifted os started H enc F)

theorem plain (f : FuncId) (fn : Func) (hf : Tryz.pinned.checked.prog.funcNamed "sheerleg/sheerleglaw17.VerifyMore" = some f) (hfn : Tryz.pinned.checked.prog.funcs[f]? = some fn) :
    false = Tryz.pinned.checked.prog.looks [] ∧ ∀ (j : Nat) t, fn.params[j]? = some t → Tryz.pinned.checked.prog.wantsStandIn t = false := by
  obtain rfl : f = 8 := Option.some.inj ((show Tryz.prog.funcNamed "sheerleg/sheerleglaw17.VerifyMore" = some 8 by kernel_rfl).symm.trans hf) |>.symm
  obtain rfl : fn = Tryz.f8 := (Option.some.inj (Tryz.func8.symm.trans hfn)).symm
  refine ⟨by kernel_rfl, fun j t ht => ?_⟩
  rw [Tryz.params8] at ht
  have hm := Array.mem_of_getElem? ht
  simp only [List.mem_toArray, List.mem_cons, List.not_mem_nil, or_false] at hm
  rcases hm with rfl | rfl | rfl
  all_goals exact (show Tryz.prog.wantsStandIn _ = false by kernel_rfl)

/-- ████ THE STATEMENT: THE CARD ████ -/
theorem proved : Rows.VerifyMoreCardSaid :=
  Claim7.holds_tied_plain_at .later [] _ _ _ _ said (fun _ h => by cases h) (by kernel_rfl) (fun _ h => by cases h) verifyMore_row_tie rfl ⟨rfl, rfl⟩ (by kernel_rfl) rfl plain (by kernel_rfl)
#print axioms proved
end Go.Proofs.YtbknmapkdjmcjaaGreatDoor.verifyMore
