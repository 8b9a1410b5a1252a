/-
  READINGS for the frames: runs, and rows, that came in.
-/
import Derived.Test.YtckpbdphilifoaaWn
import Derived.Deep.Matrix
import Derived.Deep.Slices
import Derived.ChangeSame
import Derived.OpenShut
namespace Go.Proofs.Ytckpbdphilifoaa.By
open Go.RowKit
open Mem Gm Rf

def RnW (w : World) (v : Value) (l : List Rn) : Prop := ∃ A n c, v = .slice A n c ∧ RnL w A n c l
def RoW (w : World) (v : Value) (l : List Ro) : Prop := ∃ A n c, v = .slice A n c ∧ RoL w A n c l
theorem RnW.out {w : World} {A : Option Addr} {n c : Nat} {l : List Rn} (h : RnW w (.slice A n c) l) : RnL w A n c l := by
  obtain ⟨A', n', c', e, h⟩ := h
  injection e with e1 e2 e3
  subst e1 e2 e3
  exact h
theorem RoW.out {w : World} {A : Option Addr} {n c : Nat} {l : List Ro} (h : RoW w (.slice A n c) l) : RoL w A n c l := by
  obtain ⟨A', n', c', e, h⟩ := h
  injection e with e1 e2 e3
  subst e1 e2 e3
  exact h

theorem wd_of {α : Type} {k : Nat} {enc : α → List Value} {W : World} {ad : Addr} {len cap : Nat} (hk : ∀ x, 0 < (enc x).length) (hl : len ≤ cap) (hm : cap ≤ maxLen) (q : Nat → α) (hq : ∀ i, i < len → ∀ j u, (enc (q i))[j]? = some u → W.cell? ((ad.add (i * k)).add j) = some u) : Wd k enc W W.heap.size (some ad) len cap ((List.range len).map q) := by
  refine ⟨by simp, hl, hm, fun e => by simp at e, fun i x hi => ?_⟩
  have hil : i < len := by have := (List.getElem?_eq_some_iff.1 hi).1; simpa using this
  rw [List.getElem?_map, List.getElem?_range hil] at hi
  injection hi with hi
  subst hi
  refine ⟨ad, rfl, ?_, hq i hil⟩
  have h0 := hq i hil 0 _ (List.getElem?_eq_getElem (hk (q i)))
  have := World.block_lt_of_cell? W _ h0
  rw [add_block, add_block] at this
  exact this

section
variable {H : Type} {enc : TypeId × Value → H} {W : World} {fuel : Nat} {held : Bool} {a : Option Addr} {len cap : Nat} {x : DataW H × List MemPlace}

set_option maxRecDepth 100000 in
open Go.Maps Go.Deep Go.ChangeShapes Go.WideShapes in
theorem rws_of (h : DataW.trod enc Try.prog W 0 (fun _ => true) held fuel 22 [.slice a len cap] = some x) : ∃ l : List Ro, l.length = len ∧ RoW W (.slice a len cap) l := by
  rcases open_slice Try.underlying22 h with ⟨hcs, _⟩ | ⟨ad, l, c, m, n, D, Pl, hcs, _, hl, hm, hmm, _, hi⟩
  · simp only [List.cons.injEq, Value.slice.injEq, and_true] at hcs
    obtain ⟨rfl, rfl, rfl⟩ := hcs
    exact ⟨[], rfl, none, 0, 0, rfl, Wd.nil⟩
  · simp only [List.cons.injEq, Value.slice.injEq, and_true] at hcs
    obtain ⟨rfl, rfl, rfl⟩ := hcs
    have hlm : len ≤ m := by rw [hmm]; split <;> omega
    have hc4 : Try.prog.cellsOf 33 = 4 := by kernel_rfl
    have hc1 : Try.prog.cellsOf 3 = 1 := by kernel_rfl
    have hcb : Try.prog.cellsOf 4 = 1 := by kernel_rfl
    have each : ∀ i, i < len → ∃ q : Ro, ∀ j u, (encRo q)[j]? = some u → W.cell? ((ad.add (i * 4)).add j) = some u := fun i hil => by
      obtain ⟨cs', h1, h2⟩ := hi i (by omega)
      rw [hc4] at h1
      obtain ⟨_, hlen, hcell⟩ := World.cells?_some h1
      obtain ⟨xs, k, _, _, _, hxl, hf⟩ := DataW.trod_struct Try.underlying33 h2
      match xs, hxl, cs', hlen with
      | [z0, z1, z2, z3], _, [v0, v1, v2, v3], _ =>
        have g0 := hf 0 _ rfl
        have g1 := hf 1 _ rfl
        have g2 := hf 2 _ rfl
        have g3 := hf 3 _ rfl
        simp [hc1, hcb] at g0 g1 g2 g3
        obtain ⟨a0, e0, _, _⟩ := DataW.trod_int Try.underlying3 g0
        obtain ⟨a1, e1, _, _⟩ := DataW.trod_int Try.underlying3 g1
        obtain ⟨a2, e2, _⟩ := DataW.trod_bool Try.underlying4 g2
        obtain ⟨a3, e3, _, _⟩ := DataW.trod_int Try.underlying3 g3
        simp only [List.cons.injEq, and_true] at e0 e1 e2 e3
        subst e0 e1 e2 e3
        refine ⟨(a0, a1, a2, a3), fun j u hu => ?_⟩
        have hj : j < 4 := (List.getElem?_eq_some_iff.1 hu).1
        have f := hcell j (by simpa using hj)
        match j, hj with
        | 0, _ => rw [f]; simpa [encRo] using hu
        | 1, _ => rw [f]; simpa [encRo] using hu
        | 2, _ => rw [f]; simpa [encRo] using hu
        | 3, _ => rw [f]; simpa [encRo] using hu
    obtain ⟨q, hq⟩ := choose_lt each
    exact ⟨(List.range len).map q, by simp, some ad, len, cap, rfl, wd_of (fun _ => by simp [encRo]) hl hm q hq⟩

set_option maxRecDepth 100000 in
open Go.Maps Go.Deep Go.ChangeShapes Go.WideShapes in
theorem runs_of (h : DataW.trod enc Try.prog W 0 (fun _ => true) held fuel 23 [.slice a len cap] = some x) : ∃ l : List Rn, l.length = len ∧ RnW W (.slice a len cap) l := by
  rcases open_slice Try.underlying23 h with ⟨hcs, _⟩ | ⟨ad, l, c, m, n, D, Pl, hcs, _, hl, hm, hmm, _, hi⟩
  · simp only [List.cons.injEq, Value.slice.injEq, and_true] at hcs
    obtain ⟨rfl, rfl, rfl⟩ := hcs
    exact ⟨[], rfl, none, 0, 0, rfl, Wd.nil⟩
  · simp only [List.cons.injEq, Value.slice.injEq, and_true] at hcs
    obtain ⟨rfl, rfl, rfl⟩ := hcs
    have hlm : len ≤ m := by rw [hmm]; split <;> omega
    have hc5 : Try.prog.cellsOf 60 = 5 := by kernel_rfl
    have hc4 : Try.prog.cellsOf 33 = 4 := by kernel_rfl
    have hc1 : Try.prog.cellsOf 3 = 1 := by kernel_rfl
    have hcb : Try.prog.cellsOf 4 = 1 := by kernel_rfl
    have each : ∀ i, i < len → ∃ q : Rn, ∀ j u, (encRn q)[j]? = some u → W.cell? ((ad.add (i * 5)).add j) = some u := fun i hil => by
      obtain ⟨cs', h1, h2⟩ := hi i (by omega)
      rw [hc5] at h1
      obtain ⟨_, hlen, hcell⟩ := World.cells?_some h1
      obtain ⟨xs, k, _, _, _, hxl, hf⟩ := DataW.trod_struct Try.underlying60 h2
      match xs, hxl, cs', hlen with
      | [y0, y1], _, [v, v0, v1, v2, v3], _ =>
        have g := hf 0 _ rfl
        have gr := hf 1 _ rfl
        simp [hc1, hc4] at g gr
        obtain ⟨a, e, _, _⟩ := DataW.trod_int Try.underlying3 g
        obtain ⟨zs, k2, _, _, _, hzl, hf2⟩ := DataW.trod_struct Try.underlying33 gr
        match zs, hzl with
        | [z0, z1, z2, z3], _ =>
          have g0 := hf2 0 _ rfl
          have g1 := hf2 1 _ rfl
          have g2 := hf2 2 _ rfl
          have g3 := hf2 3 _ rfl
          simp [hc1, hcb] at g0 g1 g2 g3
          obtain ⟨a0, e0, _, _⟩ := DataW.trod_int Try.underlying3 g0
          obtain ⟨a1, e1, _, _⟩ := DataW.trod_int Try.underlying3 g1
          obtain ⟨a2, e2, _⟩ := DataW.trod_bool Try.underlying4 g2
          obtain ⟨a3, e3, _, _⟩ := DataW.trod_int Try.underlying3 g3
          simp only [List.cons.injEq, and_true] at e e0 e1 e2 e3
          subst e e0 e1 e2 e3
          refine ⟨(a, a0, a1, a2, a3), fun j u hu => ?_⟩
          have hj : j < 5 := (List.getElem?_eq_some_iff.1 hu).1
          have f := hcell j (by simpa using hj)
          match j, hj with
          | 0, _ => rw [f]; simpa [encRn] using hu
          | 1, _ => rw [f]; simpa [encRn] using hu
          | 2, _ => rw [f]; simpa [encRn] using hu
          | 3, _ => rw [f]; simpa [encRn] using hu
          | 4, _ => rw [f]; simpa [encRn] using hu
    obtain ⟨q, hq⟩ := choose_lt each
    exact ⟨(List.range len).map q, by simp, some ad, len, cap, rfl, wd_of (fun _ => by simp [encRn]) hl hm q hq⟩
end
end Go.Proofs.Ytckpbdphilifoaa.By
