/-
  READINGS for the frames: marks, plans.
-/
import Derived.Test.YtbcabomblfehlabTc
import Derived.Test.YtbcabomblfehlabTf
namespace Go.Proofs.Ytbcabomblfehlab.Bo
open Go.Maps Go.Deep Go.ChangeShapes Go.WideShapes Go.ChangeAt Go.RowKit
open Mem Rf
set_option linter.unusedSimpArgs false
set_option linter.unusedVariables false
set_option maxRecDepth 100000

section
variable {H : Type} {enc : TypeId × Value → H} {W : World} {fuel : Nat} {held : Bool} {a : Option Addr} {len cap : Nat} {x : DataW H × List MemPlace}
theorem bools_of (h : DataW.trod enc Try.prog W 0 (fun _ => true) held fuel 23 [.slice a len cap] = some x) : ∃ l : List Bool, BL W a len cap l := by
  rcases open_slice Try.underlying23 h with ⟨hcs, _⟩ | ⟨ad, l, c, m, n, D, Pl, hcs, _, hl, hm, hmm, _, hi⟩
  · simp only [List.cons.injEq, Value.slice.injEq, and_true] at hcs
    obtain ⟨rfl, rfl, rfl⟩ := hcs
    exact ⟨[], Wd.nil⟩
  · simp only [List.cons.injEq, Value.slice.injEq, and_true] at hcs
    obtain ⟨rfl, rfl, rfl⟩ := hcs
    have hlm : len ≤ m := by rw [hmm]; split <;> omega
    have hcN : Try.prog.cellsOf 4 = 1 := by kernel_rfl
    have each : ∀ i, i < len → ∃ q : Bool, ∀ j u, (encB q)[j]? = some u → W.cell? ((ad.add (i * 1)).add j) = some u := fun i hil => by
      obtain ⟨cs', h1, h2⟩ := hi i (by omega)
      rw [hcN] at h1
      obtain ⟨_, hlen, hcell⟩ := World.cells?_some h1
      obtain ⟨b, e, _⟩ := DataW.trod_bool Try.underlying4 h2
      subst e
      refine ⟨b, fun j u hu => ?_⟩
      have hj : j < 1 := by have := (List.getElem?_eq_some_iff.1 hu).1; simpa [encB] using this
      obtain rfl : j = 0 := by omega
      rw [hcell 0 (by omega)]; exact hu
    obtain ⟨q, hq⟩ := choose_lt each
    exact ⟨(List.range len).map q, wd_of (fun x => by simp [encB]) hl hm q hq⟩
theorem nums_of (h : DataW.trod enc Try.prog W 0 (fun _ => true) held fuel 24 [.slice a len cap] = some x) : ∃ l : List Int, IL W a len cap l := by
  rcases open_slice Try.underlying24 h with ⟨hcs, _⟩ | ⟨ad, l, c, m, n, D, Pl, hcs, _, hl, hm, hmm, _, hi⟩
  · simp only [List.cons.injEq, Value.slice.injEq, and_true] at hcs
    obtain ⟨rfl, rfl, rfl⟩ := hcs
    exact ⟨[], Wd.nil⟩
  · simp only [List.cons.injEq, Value.slice.injEq, and_true] at hcs
    obtain ⟨rfl, rfl, rfl⟩ := hcs
    have hlm : len ≤ m := by rw [hmm]; split <;> omega
    have hcN : Try.prog.cellsOf 3 = 1 := by kernel_rfl
    have each : ∀ i, i < len → ∃ q : Int, ∀ j u, (encI q)[j]? = some u → W.cell? ((ad.add (i * 1)).add j) = some u := fun i hil => by
      obtain ⟨cs', h1, h2⟩ := hi i (by omega)
      rw [hcN] at h1
      obtain ⟨_, hlen, hcell⟩ := World.cells?_some h1
      obtain ⟨b, e, _⟩ := DataW.trod_int Try.underlying3 h2
      subst e
      refine ⟨b, fun j u hu => ?_⟩
      have hj : j < 1 := by have := (List.getElem?_eq_some_iff.1 hu).1; simpa [encI] using this
      obtain rfl : j = 0 := by omega
      rw [hcell 0 (by omega)]; exact hu
    obtain ⟨q, hq⟩ := choose_lt each
    exact ⟨(List.range len).map q, wd_of (fun x => by simp [encI]) hl hm q hq⟩
end
/-- A plan that came in. -/
theorem open_plan {H : Type} {enc : TypeId × Value → H} {W : World} {base : Nat} {held : Bool} {v : Value} {d : DataW H} {p : List MemPlace} (hv : Value.okWide Try.prog W .any base 26 v)
    (h : DataW.Trod enc Try.prog W 0 (fun _ => true) held 26 v d p) : ∃ q : Pn, v = pnV q ∧ PnR W q := by
  have k9 : Try.prog.cellsOf 26 = 2 := by kernel_rfl
  obtain ⟨cs, rfl, hsz⟩ := okWide_struct Try.underlying26 hv
  obtain ⟨c0, c1, rfl⟩ : ∃ c0 c1, cs = #[c0, c1] := by
    obtain ⟨l⟩ := cs
    have hl : l.length = 2 := hsz.trans k9
    match l, hl with
    | [c0, c1], _ => exact ⟨c0, c1, rfl⟩
  obtain ⟨fuel, hf⟩ := h
  obtain ⟨xs, m, _, _, hl, hlen, hx⟩ := DataW.trod_struct Try.underlying26 hf
  have h0 := hx 0 _ rfl
  have h1 := hx 1 _ rfl
  have kB : Try.prog.cellsOf 23 = 1 := by kernel_rfl
  have kI : Try.prog.cellsOf 24 = 1 := by kernel_rfl
  simp [Value.cells, kB, kI] at h0 h1
  have hlen9 : xs.length = 2 := hlen
  obtain ⟨y0, hy0⟩ : ∃ y, xs[0]? = some y := ⟨_, List.getElem?_eq_getElem (by omega)⟩
  obtain ⟨y1, hy1⟩ : ∃ y, xs[1]? = some y := ⟨_, List.getElem?_eq_getElem (by omega)⟩
  rw [hy0] at h0
  rw [hy1] at h1
  obtain ⟨a0, n0, e0, rfl⟩ := By.sl_form Try.underlying23 h0
  obtain ⟨a1, n1, e1, rfl⟩ := By.sl_form Try.underlying24 h1
  obtain ⟨l0, g0⟩ := bools_of h0
  obtain ⟨l1, g1⟩ := nums_of h1
  exact ⟨⟨a0, n0, e0, l0, a1, n1, e1, l1⟩, rfl, g0, g1⟩
end Go.Proofs.Ytbcabomblfehlab.Bo
