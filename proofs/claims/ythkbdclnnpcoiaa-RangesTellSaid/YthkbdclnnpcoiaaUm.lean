/-
  READINGS for the frames: code, and numbers, that came in.
-/
import Derived.Test.YthkbdclnnpcoiaaUk
import Derived.Deep.Matrix
import Derived.Deep.Slices
import Derived.ChangeSame
import Derived.OpenShut
namespace Go.Proofs.Ythkbdclnnpcoiaa.By
open Go.RowKit
open Mem Gm Rf

section
variable {H : Type} {enc : TypeId × Value → H} {W : World} {fuel : Nat} {held : Bool} {a : Option Addr} {len cap : Nat} {x : DataW H × List MemPlace}

theorem ints_slv {W : World} {ad : Addr} {L C : Nat} (l : List Int) (hl : l.length = L) (hc : L ≤ C) (hm : C ≤ maxLen) (h : ∀ j, j < L → W.cell? (ad.add j) = some (.int .i64 (l.getD j 0))) : IW W (.slice (some ad) L C) l := by
  subst hl
  have hlen : (ints l).length = l.length := by simp [ints]
  have : SlV W W.heap.size (.slice (some ad) (ints l).length C) (ints l) := .at_ ad C _ (by rw [hlen]; exact hc) hm (Row.here fun j u hu => by
    have hj : j < l.length := by
      have := (List.getElem?_eq_some_iff.1 hu).1
      rwa [hlen] at this
    rw [ints_at hj] at hu
    rw [h j hj, ← hu]; rfl)
  rwa [hlen] at this

theorem ints_of (h : DataW.trod enc Try.prog W 0 (fun _ => true) held fuel 22 [.slice a len cap] = some x) : ∃ l : List Int, l.length = len ∧ IW W (.slice a len cap) l := by
  rcases Go.ChangeShapes.open_ints (k := .i64) Try.underlying22 Try.underlying3 (by kernel_rfl) h with ⟨h1, _⟩ | ⟨ad, len', cap', zs, h1, _, hl, hm, hz, _, hc, _⟩
  · rw [List.cons.injEq, Value.slice.injEq] at h1
    obtain ⟨⟨rfl, rfl, rfl⟩, _⟩ := h1
    exact ⟨[], rfl, .nil⟩
  · rw [List.cons.injEq, Value.slice.injEq] at h1
    obtain ⟨⟨rfl, rfl, rfl⟩, _⟩ := h1
    simp only [if_true] at hz
    refine ⟨zs.take len, by rw [List.length_take]; omega, ints_slv _ (by rw [List.length_take]; omega) hl hm fun j hj => ?_⟩
    rw [hc j (by omega), List.getD_eq_getElem?_getD, List.getD_eq_getElem?_getD, List.getElem?_take, if_pos hj]


set_option maxRecDepth 100000 in
open Go.Maps Go.Deep Go.ChangeShapes Go.WideShapes in
theorem code_of (h : DataW.trod enc Try.prog W 0 (fun _ => true) held fuel 24 [.slice a len cap] = some x) : ∃ O T, CW W a len cap O T := by
  rcases open_slice Try.underlying24 h with ⟨hcs, _⟩ | ⟨ad, l, c, m, n, D, Pl, hcs, _, hl, hm, hmm, _, hi⟩
  · simp only [List.cons.injEq, Value.slice.injEq, and_true] at hcs
    obtain ⟨rfl, rfl, rfl⟩ := hcs
    exact ⟨fun _ => 0, fun _ => 0, Nat.le_refl _, Nat.zero_le _, fun i hi => by omega⟩
  · simp only [List.cons.injEq, Value.slice.injEq, and_true] at hcs
    obtain ⟨rfl, rfl, rfl⟩ := hcs
    have hlm : len ≤ m := by rw [hmm]; split <;> omega
    have hc5 : Try.prog.cellsOf 39 = 5 := by kernel_rfl
    have hc1 : Try.prog.cellsOf 3 = 1 := by kernel_rfl
    have hc2 : Try.prog.cellsOf 2 = 1 := by kernel_rfl
    have each : ∀ i, i < len → ∃ q : Int × Int, ∃ y1 y2 y3 : Int, ∀ j u, [Value.int .i64 q.1, .int .i64 y1, .int .i64 y2, .int .i64 y3, .int .i64 q.2][j]? = some u → W.cell? ((ad.add (i * 5)).add j) = some u := fun i hil => by
      obtain ⟨cs', h1, h2⟩ := hi i (by omega)
      rw [hc5] at h1
      obtain ⟨_, hlen, hcell⟩ := World.cells?_some h1
      obtain ⟨xs, k, _, _, _, hxl, hf⟩ := DataW.trod_struct Try.underlying39 h2
      match xs, hxl, cs', hlen with
      | [z0, z1, z2, z3, z4], _, [v0, v1, v2, v3, v4], _ =>
        have g0 := hf 0 _ rfl
        have g1 := hf 1 _ rfl
        have g2 := hf 2 _ rfl
        have g3 := hf 3 _ rfl
        have g4 := hf 4 _ rfl
        simp [hc1, hc2] at g0 g1 g2 g3 g4
        obtain ⟨a0, e0, _, w0⟩ := DataW.trod_int Try.underlying3 g0
        obtain ⟨a1, e1, _, w1⟩ := DataW.trod_int Try.underlying3 g1
        obtain ⟨a2, e2, _, w2⟩ := DataW.trod_int Try.underlying3 g2
        obtain ⟨a3, e3, _, w3⟩ := DataW.trod_int Try.underlying3 g3
        obtain ⟨a4, e4, _, w4⟩ := DataW.trod_int Try.underlying2 g4
        simp only [List.cons.injEq, and_true] at e0 e1 e2 e3 e4
        subst e0 e1 e2 e3 e4
        refine ⟨(a0, a4), a1, a2, a3, fun j u hu => ?_⟩
        have hj : j < 5 := by have := (List.getElem?_eq_some_iff.1 hu).1; simpa using this
        have f := hcell j (by simpa using hj)
        match j, hj with
        | 0, _ => rw [f]; simpa using hu
        | 1, _ => rw [f]; simpa using hu
        | 2, _ => rw [f]; simpa using hu
        | 3, _ => rw [f]; simpa using hu
        | 4, _ => rw [f]; simpa using hu
    obtain ⟨q, hq⟩ := choose_lt each
    refine ⟨fun i => (q i).1, fun i => (q i).2, hl, hm, fun i hil => ?_⟩
    obtain ⟨y1, y2, y3, hc⟩ := hq i hil
    refine ⟨ad, y1, y2, y3, rfl, ?_, hc⟩
    have h0 := hc 0 _ rfl
    have := World.block_lt_of_cell? W _ h0
    rw [add_block, add_block] at this
    exact this
end
end Go.Proofs.Ythkbdclnnpcoiaa.By
