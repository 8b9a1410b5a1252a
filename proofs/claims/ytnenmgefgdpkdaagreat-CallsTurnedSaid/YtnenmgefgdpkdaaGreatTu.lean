/-
  MATHEMATICS of layer 25: instructions the other way round.
-/
import Derived.Test.YtnenmgefgdpkdaaGreatTc
import Derived.Test.YtnenmgefgdpkdaaGreatRd
namespace Go.Proofs.YtnenmgefgdpkdaaGreat.Bo
open Go.RowKit Go.Maps
open Mem Rf
set_option linter.unusedSimpArgs false
set_option linter.unusedVariables false

/-- A function whose instructions stand the other way round. -/
structure Turn (g g' : Gf) (cs cs' : List By.In5) : Prop where
  n : g'.F.code.2.1 = g.F.code.2.1
  r : g'.R.2.1 = g.F.code.2.1
  ca : ∀ k, k < g.F.code.2.1 → By.inAt cs' k = By.inAt cs (g.F.code.2.1 - 1 - k)
  ra : ∀ k, k < g.F.code.2.1 → g'.refs.getD k 0 = g.refs.getD (g.F.code.2.1 - 1 - k) 0
theorem mem_gatT {cs : List By.In5} {rs : List Int} {ok : By.In5 → Bool} {n : Nat} {z : Int} : z ∈ gatL cs rs ok n ↔ ∃ j, j < n ∧ ok (By.inAt cs j) = true ∧ rs.getD j 0 = z := by
  unfold gatL
  simp only [List.mem_map, List.mem_filter, List.mem_range]
  constructor
  · rintro ⟨j, ⟨h1, h2⟩, h3⟩; exact ⟨j, h1, h2, h3⟩
  · rintro ⟨j, h1, h2, h3⟩; exact ⟨j, ⟨h1, h2⟩, h3⟩
theorem mem_viaG {cs : List By.In5} {n : Nat} {z : Int} : z ∈ viaG cs n ↔ ∃ j, j < n ∧ (By.inAt cs j).1 = 20 ∧ (By.inAt cs j).2.2.2.1 = z := by
  unfold viaG
  simp only [List.mem_map, List.mem_filter, List.mem_range, decide_eq_true_eq]
  constructor
  · rintro ⟨j, ⟨h1, h2⟩, h3⟩; exact ⟨j, h1, h2, h3⟩
  · rintro ⟨j, h1, h2, h3⟩; exact ⟨j, ⟨h1, h2⟩, h3⟩
section
variable {g g' : Gf} {cs cs' : List By.In5}
theorem Turn.gat (h : Turn g g' cs cs') (hr : g.R.2.1 = g.F.code.2.1) (ns : List Int) (z : Int) : z ∈ gatV g' cs' ns ↔ z ∈ gatV g cs ns := by
  unfold gatV
  rw [h.n, h.r, hr, Nat.min_self, mem_gatT, mem_gatT]
  constructor
  · rintro ⟨j, h1, h2, h3⟩
    refine ⟨g.F.code.2.1 - 1 - j, by omega, ?_, ?_⟩
    · rw [← h.ca j h1]; exact h2
    · rw [← h.ra j h1]; exact h3
  · rintro ⟨j, h1, h2, h3⟩
    have e : g.F.code.2.1 - 1 - (g.F.code.2.1 - 1 - j) = j := by omega
    refine ⟨g.F.code.2.1 - 1 - j, by omega, ?_, ?_⟩
    · rw [h.ca _ (by omega), e]; exact h2
    · rw [h.ra _ (by omega), e]; exact h3
theorem Turn.via (h : Turn g g' cs cs') (z : Int) : z ∈ viaG cs' g'.F.code.2.1 ↔ z ∈ viaG cs g.F.code.2.1 := by
  rw [h.n, mem_viaG, mem_viaG]
  constructor
  · rintro ⟨j, h1, h2, h3⟩
    refine ⟨g.F.code.2.1 - 1 - j, by omega, ?_, ?_⟩
    · rw [← h.ca j h1]; exact h2
    · rw [← h.ca j h1]; exact h3
  · rintro ⟨j, h1, h2, h3⟩
    have e : g.F.code.2.1 - 1 - (g.F.code.2.1 - 1 - j) = j := by omega
    refine ⟨g.F.code.2.1 - 1 - j, by omega, ?_, ?_⟩
    · rw [h.ca _ (by omega), e]; exact h2
    · rw [h.ca _ (by omega), e]; exact h3
end
theorem rise_same {m : Nat} {l l' : List Int} (h : ∀ z, z ∈ l ↔ z ∈ l') : rise m l = rise m l' := by
  unfold rise
  have : (fun (i : Nat) => l.contains (i : Int)) = fun (i : Nat) => l'.contains (i : Int) := by
    funext i
    rw [Bool.eq_iff_iff, List.contains_iff_mem, List.contains_iff_mem]
    exact h _
  rw [this]
/-- Two programs, of which one has each function's instructions the other way round. -/
structure Turned (P Q : Pgm) : Prop where
  fn : Q.fn = P.fn
  dn : Q.dn = P.dn
  ds : Q.ds = P.ds
  each : ∀ a, a < P.fn → Turn (gfAt P.fs a) (gfAt Q.fs a) (P.cs a) (Q.cs a)
  len : ∀ a, a < P.fn → (gfAt P.fs a).R.2.1 = (gfAt P.fs a).F.code.2.1
section
variable {P Q : Pgm} (h : Turned P Q) {a : Nat} (ha : a < P.fn)
include h ha
theorem Turned.direct : directL Q a = directL P a := by
  unfold directL; rw [h.fn]; exact rise_same ((h.each a ha).gat (h.len a ha) _)
theorem Turned.datas : datasL Q a = datasL P a := by
  unfold datasL; rw [h.dn]; exact rise_same ((h.each a ha).gat (h.len a ha) _)
theorem Turned.tabs : tabsL Q a = tabsL P a := by
  unfold tabsL; rw [h.dn]; exact rise_same ((h.each a ha).gat (h.len a ha) _)
theorem Turned.values : valuesL Q a = valuesL P a := by
  unfold valuesL
  rw [h.fn, h.ds, h.tabs ha]
  refine rise_same fun z => ?_
  rw [List.mem_append, List.mem_append, (h.each a ha).gat (h.len a ha)]
theorem Turned.refers : refersL Q a = refersL P a := by
  unfold refersL; rw [h.fn, h.direct ha, h.values ha]
theorem Turned.vias : viasL Q a = viasL P a := by
  unfold viasL; exact rise_same (h.each a ha).via
end
theorem Turned.lists {P Q : Pgm} (h : Turned P Q) : (List.range Q.fn).map (refersL Q) = (List.range P.fn).map (refersL P) ∧ (List.range Q.fn).map (viasL Q) = (List.range P.fn).map (viasL P) ∧ (List.range Q.fn).map (datasL Q) = (List.range P.fn).map (datasL P) := by
  rw [h.fn]
  exact ⟨List.map_congr_left fun a ha => h.refers (List.mem_range.1 ha), List.map_congr_left fun a ha => h.vias (List.mem_range.1 ha), List.map_congr_left fun a ha => h.datas (List.mem_range.1 ha)⟩
end Go.Proofs.YtnenmgefgdpkdaaGreat.Bo
