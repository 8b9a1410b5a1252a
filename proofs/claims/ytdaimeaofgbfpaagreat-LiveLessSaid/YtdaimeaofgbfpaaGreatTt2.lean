/-
 Tt2
-/
import Derived.Test.YtdaimeaofgbfpaaGreatZa2
import Derived.Test.YtdaimeaofgbfpaaGreatRows
import Derived.OpenShut
import Derived.Laws.IdiomArrays
import Derived.ChangeOld
set_option linter.unusedSimpArgs false
set_option linter.unusedVariables false
namespace Go.Proofs.YtdaimeaofgbfpaaGreat.Bo
open Go.RowKit Go.ChangeShapes
set_option linter.constructorNameAsVariable false
theorem trod_array2 {H : Type} {enc : TypeId × Value → H} {P : Program} {w : World} {base : Nat} {spare : Nat → Bool} {held : Bool} {t e : TypeId} {fuel : Nat} {c0 c1 : Value} {x : DataW H × List MemPlace} (ht : P.underlying t = some (.array 2 e)) (hce : P.cellsOf e = 1)
  (h : DataW.trod enc P w base spare held fuel t [c0, c1] = some x) : ∃ y0 y1 n, x = (.agg [y0.1, y1.1], y0.2 ++ y1.2) ∧ DataW.trod enc P w base spare held n e [c0] = some y0 ∧ DataW.trod enc P w base spare held n e [c1] = some y1 := by
 cases fuel with
 | zero => simp [DataW.trod] at h
 | succ n =>
  unfold DataW.trod at h
  rw [ht] at h
  have r2 : List.range 2 = [0, 1] := rfl
  simp [r2, hce] at h
  obtain ⟨_, h⟩ := h
  cases h0 : DataW.trod enc P w base spare held n e [c0] with
  | none => simp [h0] at h
  | some y0 =>
   cases h1 : DataW.trod enc P w base spare held n e [c1] with
   | none => simp [h0, h1] at h
   | some y1 =>
    simp [h0, h1] at h
    exact ⟨y0, y1, n, h.symm, h0, h1⟩
theorem arr2_of {H : Type} {enc : TypeId × Value → H} {W : World} {base : Nat} {sp : Nat → Bool} {held : Bool} {r : Reach} {b0 : Nat} {v : Value} {d : DataW H} {p : List MemPlace} (hv : Value.okWide Tryz.prog W r b0 23 v) (h : DataW.Trod enc Tryz.prog W base sp held 23 v d p) :
  ∃ x y : Int, v = .agg #[.int .i64 x, .int .i64 y] ∧ p = [] ∧ ((Lit.int .i64 x).wf = true ∧ (Lit.int .i64 y).wf = true) ∧ ∀ (W' : World) (base' : Nat) (sp' : Nat → Bool) (held' : Bool), DataW.Trod enc Tryz.prog W' base' sp' held' 23 v d [] := by
 have hu := Tryz.underlying23
 simp only [Value.okWide, hu] at hv
 obtain ⟨cs, rfl, h2, _⟩ := hv
 have h3 : cs.size = 2 := by rw [h2]; kernel_rfl
 obtain ⟨cs⟩ := cs
 obtain ⟨a, b, rfl⟩ : ∃ a b, cs = [a, b] := by
  match cs, h3 with
  | [a, b], _ => exact ⟨a, b, rfl⟩
 obtain ⟨fuel, hf⟩ := h
 obtain ⟨y0, y1, n, e, k0, k1⟩ := trod_array2 (c0 := a) (c1 := b) hu (by kernel_rfl) (by simpa [Value.cells] using hf)
 obtain ⟨x, ex, rfl, wx⟩ := DataW.trod_int Tryz.underlying3 k0
 obtain ⟨y, ey, rfl, wy⟩ := DataW.trod_int Tryz.underlying3 k1
 obtain rfl : a = .int .i64 x := by simpa using ex
 obtain rfl : b = .int .i64 y := by simpa using ey
 simp only [Prod.mk.injEq] at e
 obtain ⟨rfl, rfl⟩ := e
 refine ⟨x, y, rfl, rfl, ⟨wx, wy⟩, fun W' base' sp' held' => ⟨2, ?_⟩⟩
 have hc : Tryz.prog.cellsOf 23 = 2 := by kernel_rfl
 have hc1 : Tryz.prog.cellsOf 3 = 1 := by kernel_rfl
 have r2 : List.range 2 = [0, 1] := rfl
 simp [DataW.trod, Value.cells, hu, hc, hc1, r2, Tryz.underlying3, wx, wy]
end Go.Proofs.YtdaimeaofgbfpaaGreat.Bo
