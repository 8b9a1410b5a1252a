/-
  READING of files that came in.
-/
import Derived.Test.YtmabenffdpipmaaSi
import Derived.Deep.Matrix
import Derived.Deep.Slices
import Derived.ChangeSame
import Derived.ChangeOld
import Derived.ChangeShapes
import Derived.ChangeArms
import Derived.OpenShut
namespace Go.Proofs.Ytmabenffdpipmaa.By
open Go.Maps Go.Deep Go.ChangeShapes Go.WideShapes Go.ChangeAt Go.RowKit
open Mem Rf
set_option linter.unusedSimpArgs false
set_option linter.unusedVariables false
set_option maxRecDepth 100000

instance : Inhabited Fc := ⟨⟨0, (none, 0, 0), 0, false, 0, 0, (none, 0, 0), (none, 0, 0), (none, 0, 0)⟩⟩
instance : Inhabited Dc := ⟨⟨0, (none, 0, 0), (none, 0, 0)⟩⟩
instance : Inhabited Ob := ⟨ob0⟩

theorem wd_of {α : Type} {k : Nat} {enc : α → List Value} {W : World} {ad : Addr} {len cap : Nat} (hk : ∀ x, 0 < (enc x).length) (hl : len ≤ cap) (hm : cap ≤ maxLen) (q : Nat → α) (hq : ∀ i, i < len → ∀ j u, (enc (q i))[j]? = some u → W.cell? ((ad.add (i * k)).add j) = some u) : Wd k enc W W.heap.size (some ad) len cap ((List.range len).map q) := by
  refine ⟨by simp, hl, hm, fun e => by simp at e, fun i x hi => ?_⟩
  have hil : i < len := by have := (List.getElem?_eq_some_iff.1 hi).1; simpa using this
  rw [List.getElem?_map, List.getElem?_range hil] at hi
  injection hi with hi
  subst hi
  refine ⟨ad, rfl, ?_, hq i hil⟩
  have h0 := hq i hil 0 _ (List.getElem?_eq_getElem (hk (q i)))
  have := World.block_lt_of_cell? W _ h0
  rw [add_block, add_block] at this
  exact this

section
variable {H : Type} {enc : TypeId × Value → H} {W : World} {fuel : Nat} {held : Bool} {x : DataW H × List MemPlace}
theorem sl_form {t e : TypeId} {v : Value} (ht : Try.prog.underlying t = some (.slice e)) (h : DataW.trod enc Try.prog W 0 (fun _ => true) held fuel t [v] = some x) : ∃ y : Sl3, v = slV y ∧ okSl y := by
  rcases open_slice ht h with ⟨hcs, _⟩ | ⟨ad, l, c, m, n, D, Pl, hcs, _, hl, hm, hmm, _, hi⟩
  · simp only [List.cons.injEq, and_true] at hcs
    exact ⟨(none, 0, 0), hcs, by unfold okSl; decide⟩
  · simp only [List.cons.injEq, and_true] at hcs
    exact ⟨(some ad, l, c), hcs, by unfold okSl; unfold maxLen at hm; dsimp only; omega⟩

theorem syms_in {v : Value} (h : DataW.trod enc Try.prog W 0 (fun _ => true) held fuel 36 [v] = some x) : ∃ A n c, ∃ l : List Sy, v = .slice A n c ∧ Wd 5 encSy W W.heap.size A n c l ∧ ∀ y ∈ l, y.1.size ≤ maxLen := by
  rcases open_slice Try.underlying36 h with ⟨hcs, _⟩ | ⟨ad, len, c, m, n, D, Pl, hcs, _, hl, hm, hmm, _, hi⟩
  · simp only [List.cons.injEq, and_true] at hcs
    exact ⟨none, 0, 0, [], hcs, Wd.nil, fun y hy => absurd hy (by simp)⟩
  · simp only [List.cons.injEq, and_true] at hcs
    have hlm : len ≤ m := by rw [hmm]; split <;> omega
    have hcN : Try.prog.cellsOf 42 = 5 := by kernel_rfl
    have hc3 : Try.prog.cellsOf 3 = 1 := by kernel_rfl
    have hc4 : Try.prog.cellsOf 4 = 1 := by kernel_rfl
    have hc9 : Try.prog.cellsOf 9 = 1 := by kernel_rfl
    have each : ∀ i, i < len → ∃ q : Sy, (∀ j u, (encSy q)[j]? = some u → W.cell? ((ad.add (i * 5)).add j) = some u) ∧ q.1.size ≤ maxLen := fun i hil => by
      obtain ⟨cs', h1, h2⟩ := hi i (by omega)
      rw [hcN] at h1
      obtain ⟨_, hlen, hcell⟩ := World.cells?_some h1
      obtain ⟨xs, k, _, _, _, hxl, hf⟩ := DataW.trod_struct Try.underlying42 h2
      match xs, hxl, cs', hlen with
      | [z0, z1, z2, z3, z4], _, [v0, v1, v2, v3, v4], _ =>
        have g0 := hf 0 _ rfl
        have g1 := hf 1 _ rfl
        have g2 := hf 2 _ rfl
        have g3 := hf 3 _ rfl
        have g4 := hf 4 _ rfl
        simp [hc3, hc4, hc9] at g0 g1 g2 g3 g4
        obtain ⟨a0, e0, _, w0⟩ := DataW.trod_string Try.underlying9 g0
        obtain ⟨a1, e1, _⟩ := DataW.trod_bool Try.underlying4 g1
        obtain ⟨a2, e2, _, w2⟩ := DataW.trod_int Try.underlying3 g2
        obtain ⟨a3, e3, _, w3⟩ := DataW.trod_int Try.underlying3 g3
        obtain ⟨a4, e4, _, w4⟩ := DataW.trod_int Try.underlying3 g4
        simp only [List.cons.injEq, and_true] at e0 e1 e2 e3 e4
        subst e0 e1 e2 e3 e4
        refine ⟨(a0, a1, a2, a3, a4), fun j u hu => ?_, w0⟩
        have hj : j < 5 := by have := (List.getElem?_eq_some_iff.1 hu).1; simpa [encSy] using this
        have f := hcell j (by simpa using hj)
        match j, hj with
        | 0, _ => rw [f]; simpa [encSy] using hu
        | 1, _ => rw [f]; simpa [encSy] using hu
        | 2, _ => rw [f]; simpa [encSy] using hu
        | 3, _ => rw [f]; simpa [encSy] using hu
        | 4, _ => rw [f]; simpa [encSy] using hu
    obtain ⟨q, hq⟩ := choose_lt each
    exact ⟨some ad, len, c, (List.range len).map q, hcs, wd_of (fun x => by simp [encSy]) hl hm q (fun i hi => (hq i hi).1), fun y hy => by
      obtain ⟨i, hi, rfl⟩ := List.mem_map.1 hy
      exact (hq i (List.mem_range.1 hi)).2⟩

theorem funs_in {v : Value} (h : DataW.trod enc Try.prog W 0 (fun _ => true) held fuel 37 [v] = some x) : ∃ y : Sl3, ∃ l : List Fc, v = slV y ∧ Wd 9 encFc W W.heap.size y.1 y.2.1 y.2.2 l ∧ ∀ x ∈ l, okSl x.kinds ∧ okSl x.lines ∧ okSl x.code ∧ okSl x.rel := by
  rcases open_slice Try.underlying37 h with ⟨hcs, _⟩ | ⟨ad, len, c, m, n, D, Pl, hcs, _, hl, hm, hmm, _, hi⟩
  · simp only [List.cons.injEq, and_true] at hcs
    exact ⟨(none, 0, 0), [], hcs, Wd.nil, fun y hy => absurd hy (by simp)⟩
  · simp only [List.cons.injEq, and_true] at hcs
    have hlm : len ≤ m := by rw [hmm]; split <;> omega
    have hcN : Try.prog.cellsOf 64 = 9 := by kernel_rfl
    have hc3 : Try.prog.cellsOf 3 = 1 := by kernel_rfl
    have hc4 : Try.prog.cellsOf 4 = 1 := by kernel_rfl
    have hk : Try.prog.cellsOf 59 = 1 := by kernel_rfl
    have hk1 : Try.prog.cellsOf 60 = 1 := by kernel_rfl
    have hk2 : Try.prog.cellsOf 61 = 1 := by kernel_rfl
    have hk3 : Try.prog.cellsOf 62 = 1 := by kernel_rfl
    have each : ∀ i, i < len → ∃ q : Fc, (∀ j u, (encFc q)[j]? = some u → W.cell? ((ad.add (i * 9)).add j) = some u) ∧ okSl q.kinds ∧ okSl q.lines ∧ okSl q.code ∧ okSl q.rel := fun i hil => by
      obtain ⟨cs', h1, h2⟩ := hi i (by omega)
      rw [hcN] at h1
      obtain ⟨_, hlen, hcell⟩ := World.cells?_some h1
      obtain ⟨xs, k, _, _, _, hxl, hf⟩ := DataW.trod_struct Try.underlying64 h2
      match xs, hxl, cs', hlen with
      | [z0, z1, z2, z3, z4, z5, z6, z7, z8], _, [v0, v1, v2, v3, v4, v5, v6, v7, v8], _ =>
        have g0 := hf 0 _ rfl
        have g1 := hf 1 _ rfl
        have g2 := hf 2 _ rfl
        have g3 := hf 3 _ rfl
        have g4 := hf 4 _ rfl
        have g5 := hf 5 _ rfl
        have g6 := hf 6 _ rfl
        have g7 := hf 7 _ rfl
        have g8 := hf 8 _ rfl
        simp [hc3, hc4, hk, hk1, hk2, hk3] at g0 g1 g2 g3 g4 g5 g6 g7 g8
        obtain ⟨a0, e0, _, _⟩ := DataW.trod_int Try.underlying3 g0
        obtain ⟨a1, e1, k1⟩ := sl_form Try.underlying59 g1
        obtain ⟨a2, e2, _, _⟩ := DataW.trod_int Try.underlying3 g2
        obtain ⟨a3, e3, _⟩ := DataW.trod_bool Try.underlying4 g3
        obtain ⟨a4, e4, _, _⟩ := DataW.trod_int Try.underlying3 g4
        obtain ⟨a5, e5, _, _⟩ := DataW.trod_int Try.underlying3 g5
        obtain ⟨a6, e6, k6⟩ := sl_form Try.underlying60 g6
        obtain ⟨a7, e7, k7⟩ := sl_form Try.underlying61 g7
        obtain ⟨a8, e8, k8⟩ := sl_form Try.underlying62 g8
        simp only [List.cons.injEq, and_true] at e0 e2 e3 e4 e5
        subst e0 e1 e2 e3 e4 e5 e6 e7 e8
        refine ⟨⟨a0, a1, a2, a3, a4, a5, a6, a7, a8⟩, fun j u hu => ?_, k1, k6, k7, k8⟩
        have hj : j < 9 := by have := (List.getElem?_eq_some_iff.1 hu).1; simpa [encFc] using this
        have f := hcell j (by simpa using hj)
        match j, hj with
        | 0, _ => rw [f]; simpa [encFc] using hu
        | 1, _ => rw [f]; simpa [encFc] using hu
        | 2, _ => rw [f]; simpa [encFc] using hu
        | 3, _ => rw [f]; simpa [encFc] using hu
        | 4, _ => rw [f]; simpa [encFc] using hu
        | 5, _ => rw [f]; simpa [encFc] using hu
        | 6, _ => rw [f]; simpa [encFc] using hu
        | 7, _ => rw [f]; simpa [encFc] using hu
        | 8, _ => rw [f]; simpa [encFc] using hu
    obtain ⟨q, hq⟩ := choose_lt each
    exact ⟨(some ad, len, c), (List.range len).map q, hcs, wd_of (fun x => by simp [encFc]) hl hm q (fun i hi => (hq i hi).1), fun y hy => by
      obtain ⟨i, hi, rfl⟩ := List.mem_map.1 hy
      exact (hq i (List.mem_range.1 hi)).2⟩

theorem dats_in {v : Value} (h : DataW.trod enc Try.prog W 0 (fun _ => true) held fuel 38 [v] = some x) : ∃ y : Sl3, ∃ l : List Dc, v = slV y ∧ Wd 3 encDc W W.heap.size y.1 y.2.1 y.2.2 l ∧ ∀ x ∈ l, okSl x.words ∧ okSl x.rel := by
  rcases open_slice Try.underlying38 h with ⟨hcs, _⟩ | ⟨ad, len, c, m, n, D, Pl, hcs, _, hl, hm, hmm, _, hi⟩
  · simp only [List.cons.injEq, and_true] at hcs
    exact ⟨(none, 0, 0), [], hcs, Wd.nil, fun y hy => absurd hy (by simp)⟩
  · simp only [List.cons.injEq, and_true] at hcs
    have hlm : len ≤ m := by rw [hmm]; split <;> omega
    have hcN : Try.prog.cellsOf 68 = 3 := by kernel_rfl
    have hc3 : Try.prog.cellsOf 3 = 1 := by kernel_rfl
    have hk2 : Try.prog.cellsOf 66 = 1 := by kernel_rfl
    have hk3 : Try.prog.cellsOf 62 = 1 := by kernel_rfl
    have each : ∀ i, i < len → ∃ q : Dc, (∀ j u, (encDc q)[j]? = some u → W.cell? ((ad.add (i * 3)).add j) = some u) ∧ okSl q.words ∧ okSl q.rel := fun i hil => by
      obtain ⟨cs', h1, h2⟩ := hi i (by omega)
      rw [hcN] at h1
      obtain ⟨_, hlen, hcell⟩ := World.cells?_some h1
      obtain ⟨xs, k, _, _, _, hxl, hf⟩ := DataW.trod_struct Try.underlying68 h2
      match xs, hxl, cs', hlen with
      | [z0, z1, z2], _, [v0, v1, v2], _ =>
        have g0 := hf 0 _ rfl
        have g1 := hf 1 _ rfl
        have g2 := hf 2 _ rfl
        simp [hc3, hk2, hk3] at g0 g1 g2
        obtain ⟨a0, e0, _, _⟩ := DataW.trod_int Try.underlying3 g0
        obtain ⟨a1, e1, k1⟩ := sl_form Try.underlying66 g1
        obtain ⟨a2, e2, k2⟩ := sl_form Try.underlying62 g2
        simp only [List.cons.injEq, and_true] at e0
        subst e0 e1 e2
        refine ⟨⟨a0, a1, a2⟩, fun j u hu => ?_, k1, k2⟩
        have hj : j < 3 := by have := (List.getElem?_eq_some_iff.1 hu).1; simpa [encDc] using this
        have f := hcell j (by simpa using hj)
        match j, hj with
        | 0, _ => rw [f]; simpa [encDc] using hu
        | 1, _ => rw [f]; simpa [encDc] using hu
        | 2, _ => rw [f]; simpa [encDc] using hu
    obtain ⟨q, hq⟩ := choose_lt each
    exact ⟨(some ad, len, c), (List.range len).map q, hcs, wd_of (fun x => by simp [encDc]) hl hm q (fun i hi => (hq i hi).1), fun y hy => by
      obtain ⟨i, hi, rfl⟩ := List.mem_map.1 hy
      exact (hq i (List.mem_range.1 hi)).2⟩

/-- What is known of files that came in. -/
def ObW (w : World) (A : Option Addr) (n c : Nat) (os : List Ob) : Prop :=
  ObL w w.heap.size A n c os ∧ (∀ i, i < n → Rest w w.heap.size (obAt os i).F (obAt os i).D) ∧ ∀ i, i < n → ∀ y ∈ (obAt os i).l, y.1.size ≤ maxLen

theorem ob_in {cs : List Value} (h : DataW.trod enc Try.prog W 0 (fun _ => true) held fuel 40 cs = some x) :
    ∃ q : Ob, cs = encOb q ∧ Wd 5 encSy W W.heap.size q.A q.n q.c q.l ∧ Rest W W.heap.size q.F q.D ∧ ∀ y ∈ q.l, y.1.size ≤ maxLen := by
  have hk1 : Try.prog.cellsOf 36 = 1 := by kernel_rfl
  have hk2 : Try.prog.cellsOf 37 = 1 := by kernel_rfl
  have hk3 : Try.prog.cellsOf 38 = 1 := by kernel_rfl
  have hcN : Try.prog.cellsOf 40 = 3 := by kernel_rfl
  obtain ⟨xs, k, _, _, hlen, hxl, hf⟩ := DataW.trod_struct Try.underlying40 h
  rw [hcN] at hlen
  match xs, hxl, cs, hlen with
  | [z0, z1, z2], _, [v0, v1, v2], _ =>
    have g0 := hf 0 _ rfl
    have g1 := hf 1 _ rfl
    have g2 := hf 2 _ rfl
    simp [hk1, hk2, hk3] at g0 g1 g2
    obtain ⟨A, n, c, l, e0, h0, h0'⟩ := syms_in g0
    obtain ⟨yF, lF, e1, h1, h1'⟩ := funs_in g1
    obtain ⟨yD, lD, e2, h2, h2'⟩ := dats_in g2
    exact ⟨⟨A, n, c, l, yF, yD⟩, by rw [e0, e1, e2]; rfl, h0, ⟨⟨lF, h1, h1'⟩, ⟨lD, h2, h2'⟩⟩, h0'⟩

theorem objs_of {a : Option Addr} {len cap : Nat} (h : DataW.trod enc Try.prog W 0 (fun _ => true) held fuel 22 [.slice a len cap] = some x) : ∃ os : List Ob, ObW W a len cap os := by
  rcases open_slice Try.underlying22 h with ⟨hcs, _⟩ | ⟨ad, l, c, m, n, D, Pl, hcs, _, hl, hm, hmm, _, hi⟩
  · simp only [List.cons.injEq, Value.slice.injEq, and_true] at hcs
    obtain ⟨rfl, rfl, rfl⟩ := hcs
    exact ⟨[], ⟨Wd.nil, fun i hi => by omega⟩, fun i hi => by omega, fun i hi => by omega⟩
  · simp only [List.cons.injEq, Value.slice.injEq, and_true] at hcs
    obtain ⟨rfl, rfl, rfl⟩ := hcs
    have hlm : len ≤ m := by rw [hmm]; split <;> omega
    have hcN : Try.prog.cellsOf 40 = 3 := by kernel_rfl
    have each : ∀ i, i < len → ∃ q : Ob, (∀ j u, (encOb q)[j]? = some u → W.cell? ((ad.add (i * 3)).add j) = some u) ∧ Wd 5 encSy W W.heap.size q.A q.n q.c q.l ∧ Rest W W.heap.size q.F q.D ∧ ∀ y ∈ q.l, y.1.size ≤ maxLen := fun i hil => by
      obtain ⟨cs', h1, h2⟩ := hi i (by omega)
      rw [hcN] at h1
      obtain ⟨_, hlen, hcell⟩ := World.cells?_some h1
      obtain ⟨q, rfl, h3, h4, h5⟩ := ob_in h2
      refine ⟨q, fun j u hu => ?_, h3, h4, h5⟩
      have hj : j < 3 := by have := (List.getElem?_eq_some_iff.1 hu).1; simpa [encOb] using this
      rw [hcell j hj]; exact hu
    obtain ⟨q, hq⟩ := choose_lt each
    have hat : ∀ i, i < len → obAt ((List.range len).map q) i = q i := fun i hi => by
      unfold obAt
      rw [List.getD_eq_getElem?_getD, List.getElem?_map, List.getElem?_range hi]; rfl
    exact ⟨(List.range len).map q, ⟨wd_of (fun x => by simp [encOb]) hl hm q (fun i hi => (hq i hi).1), fun i hi => by rw [hat i hi]; exact (hq i hi).2.1⟩, fun i hi => by rw [hat i hi]; exact (hq i hi).2.2.1, fun i hi => by rw [hat i hi]; exact (hq i hi).2.2.2⟩
end
end Go.Proofs.Ytmabenffdpipmaa.By
