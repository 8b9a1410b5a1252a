/-
  READINGS for the frames: three numbers that came in.
-/
import Derived.Test.YtlfgnoicjogfpaaDz
import Derived.OpenShut
import Derived.Laws.IdiomArrays
import Derived.ChangeOld
namespace Go.Proofs.Ytlfgnoicjogfpaa.By
open Go.RowKit Go.ChangeShapes
open Mem Gm Rf
set_option linter.constructorNameAsVariable false

theorem arr3_of {H : Type} {enc : TypeId × Value → H} {W : World} {base : Nat} {sp : Nat → Bool} {held : Bool} {r : Reach} {b0 : Nat} {v : Value} {d : DataW H} {p : List MemPlace} (hv : Value.okWide Try.prog W r b0 35 v) (h : DataW.Trod enc Try.prog W base sp held 35 v d p) :
    ∃ x y z : Int, v = .agg #[.int .i64 x, .int .i64 y, .int .i64 z] ∧ p = [] ∧ ∀ (W' : World) (base' : Nat) (sp' : Nat → Bool) (held' : Bool), DataW.Trod enc Try.prog W' base' sp' held' 35 v d [] := by
  have hu := Try.underlying35
  simp only [Value.okWide, hu] at hv
  obtain ⟨cs, rfl, h2, _⟩ := hv
  have h3 : cs.size = 3 := by rw [h2]; kernel_rfl
  obtain ⟨cs⟩ := cs
  obtain ⟨a, b, c, rfl⟩ : ∃ a b c, cs = [a, b, c] := by
    match cs, h3 with
    | [a, b, c], _ => exact ⟨a, b, c, rfl⟩
  obtain ⟨fuel, hf⟩ := h
  obtain ⟨y0, y1, y2, n, e, k0, k1, k2⟩ := trod_array3 (c0 := a) (c1 := b) (c2 := c) hu (by kernel_rfl) (by simpa [Value.cells] using hf)
  obtain ⟨x, ex, rfl, wx⟩ := DataW.trod_int Try.underlying3 k0
  obtain ⟨y, ey, rfl, wy⟩ := DataW.trod_int Try.underlying3 k1
  obtain ⟨z, ez, rfl, wz⟩ := DataW.trod_int Try.underlying3 k2
  obtain rfl : a = .int .i64 x := by simpa using ex
  obtain rfl : b = .int .i64 y := by simpa using ey
  obtain rfl : c = .int .i64 z := by simpa using ez
  simp only [Prod.mk.injEq] at e
  obtain ⟨rfl, rfl⟩ := e
  refine ⟨x, y, z, rfl, rfl, fun W' base' sp' held' => ⟨2, ?_⟩⟩
  have hc : Try.prog.cellsOf 35 = 3 := by kernel_rfl
  have hc1 : Try.prog.cellsOf 3 = 1 := by kernel_rfl
  have r3 : List.range 3 = [0, 1, 2] := rfl
  simp [DataW.trod, Value.cells, hu, hc, hc1, r3, Try.underlying3, wx, wy, wz]
end Go.Proofs.Ytlfgnoicjogfpaa.By
