/-
  READINGS for the frames: a graph, numbers, and a list of yes and no, that came in.
-/
import Derived.Test.YtlfgnoicjogfpaaDe
import Derived.Deep.Matrix
import Derived.Deep.Grids
namespace Go.Proofs.Ytlfgnoicjogfpaa.By
open Go.RowKit
open Mem Gm Rf

section
variable {H : Type} {enc : TypeId × Value → H} {W : World} {fuel : Nat} {held : Bool} {a : Option Addr} {len cap : Nat} {x : DataW H × List MemPlace}

theorem ints_slv {W : World} {ad : Addr} {L C : Nat} (l : List Int) (hl : l.length = L) (hc : L ≤ C) (hm : C ≤ maxLen) (h : ∀ j, j < L → W.cell? (ad.add j) = some (.int .i64 (l.getD j 0))) : IW W (.slice (some ad) L C) l := by
  subst hl
  have hlen : (ints l).length = l.length := by simp [ints]
  have : SlV W W.heap.size (.slice (some ad) (ints l).length C) (ints l) := .at_ ad C _ (by rw [hlen]; exact hc) hm (Row.here fun j u hu => by
    have hj : j < l.length := by
      have := (List.getElem?_eq_some_iff.1 hu).1
      rwa [hlen] at this
    rw [ints_at hj] at hu
    rw [h j hj, ← hu]; rfl)
  rwa [hlen] at this

theorem ints_of (h : DataW.trod enc Try.prog W 0 (fun _ => true) held fuel 26 [.slice a len cap] = some x) : ∃ l : List Int, l.length = len ∧ IW W (.slice a len cap) l := by
  rcases Go.ChangeShapes.open_ints (k := .i64) Try.underlying26 Try.underlying3 (by kernel_rfl) h with ⟨h1, _⟩ | ⟨ad, len', cap', zs, h1, _, hl, hm, hz, _, hc, _⟩
  · rw [List.cons.injEq, Value.slice.injEq] at h1
    obtain ⟨⟨rfl, rfl, rfl⟩, _⟩ := h1
    exact ⟨[], rfl, .nil⟩
  · rw [List.cons.injEq, Value.slice.injEq] at h1
    obtain ⟨⟨rfl, rfl, rfl⟩, _⟩ := h1
    simp only [if_true] at hz
    refine ⟨zs.take len, by rw [List.length_take]; omega, ints_slv _ (by rw [List.length_take]; omega) hl hm fun j hj => ?_⟩
    rw [hc j (by omega), List.getD_eq_getElem?_getD, List.getD_eq_getElem?_getD, List.getElem?_take, if_pos hj]

theorem rows_of (h : DataW.trod enc Try.prog W 0 (fun _ => true) held fuel 22 [.slice a len cap] = some x) : ∃ g : List (List Int), g.length = len ∧ GW W (.slice a len cap) g := by
  rcases Deep.open_int_rows (k := .i64) Try.underlying22 Try.underlying26 Try.underlying3 (by kernel_rfl) (by kernel_rfl) h with ⟨h1, _⟩ | ⟨ad, len', cap', A, L, C, Z, h1, _, hl, hm, _, hr⟩
  · rw [List.cons.injEq, Value.slice.injEq] at h1
    obtain ⟨⟨rfl, rfl, rfl⟩, _⟩ := h1
    exact ⟨[], rfl, [], .nil, rfl, fun i rv hi => by simp at hi⟩
  · rw [List.cons.injEq, Value.slice.injEq] at h1
    obtain ⟨⟨rfl, rfl, rfl⟩, _⟩ := h1
    refine ⟨(List.range len).map fun r => (Z r).take (L r), by simp, (List.range len).map fun r => .slice (A r) (L r) (C r), ?_, by simp, fun i rv hi => ?_⟩
    · have : SlV W W.heap.size (.slice (some ad) ((List.range len).map fun r => Value.slice (A r) (L r) (C r)).length cap) ((List.range len).map fun r => Value.slice (A r) (L r) (C r)) := .at_ ad cap _ (by simpa using hl) hm (Row.here fun j u hu => by
        obtain ⟨hj, e⟩ := List.getElem?_eq_some_iff.1 hu
        simp only [List.getElem_map, List.getElem_range] at e
        have hj' : j < len := by simpa using hj
        rw [(hr j (by omega)).1, e])
      simpa using this
    · obtain ⟨hj, e⟩ := List.getElem?_eq_some_iff.1 hi
      simp only [List.getElem_map, List.getElem_range] at e
      have hi' : i < len := by simpa using hj
      obtain ⟨_, h2, h3, h4, _, h5, h6⟩ := hr i (by omega)
      have hrow : rowOf ((List.range len).map fun r => (Z r).take (L r)) i = (Z i).take (L i) := by
        unfold rowOf; simp [List.getD_eq_getElem?_getD, hi']
      have hlen : ((Z i).take (L i)).length = L i := by rw [List.length_take]; omega
      rw [hrow]
      refine ⟨A i, C i, by rw [← e, hlen], ?_⟩
      rw [← e]
      cases hA : A i with
      | none =>
        have hc0 := h5 hA
        have hl0 : L i = 0 := by omega
        rw [hc0, hl0]
        exact .nil
      | some a' =>
        refine ints_slv _ hlen h2 h3 fun j hj => ?_
        rw [(h6 a' hA).2 j (by omega), List.getD_eq_getElem?_getD, List.getD_eq_getElem?_getD, List.getElem?_take, if_pos hj]

theorem bools_of (h : DataW.trod enc Try.prog W 0 (fun _ => true) held fuel 23 [.slice a len cap] = some x) : ∃ l : List Bool, l.length = len ∧ LW W (.slice a len cap) l := by
  rcases Deep.open_bools Try.underlying23 Try.underlying4 (by kernel_rfl) h with ⟨h1, _⟩ | ⟨ad, len', cap', B, h1, _, hl, hm, _, hc⟩
  · rw [List.cons.injEq, Value.slice.injEq] at h1
    obtain ⟨⟨rfl, rfl, rfl⟩, _⟩ := h1
    exact ⟨[], rfl, .nil⟩
  · rw [List.cons.injEq, Value.slice.injEq] at h1
    obtain ⟨⟨rfl, rfl, rfl⟩, _⟩ := h1
    refine ⟨(List.range len).map B, by simp, ?_⟩
    have hlen : (bls ((List.range len).map B)).length = len := by simp [bls]
    have : SlV W W.heap.size (.slice (some ad) (bls ((List.range len).map B)).length cap) (bls ((List.range len).map B)) := .at_ ad cap _ (by rw [hlen]; exact hl) hm (Row.here fun j u hu => by
      have hj : j < len := by
        have := (List.getElem?_eq_some_iff.1 hu).1
        rwa [hlen] at this
      have e : u = .bool (B j) := by
        have h2 := hu
        simp only [bls, List.getElem?_map, List.getElem?_range hj, Option.map_some] at h2
        injection h2 with h2
        exact h2.symm
      rw [hc j (by omega), e])
    rwa [hlen] at this
end
end Go.Proofs.Ytlfgnoicjogfpaa.By
