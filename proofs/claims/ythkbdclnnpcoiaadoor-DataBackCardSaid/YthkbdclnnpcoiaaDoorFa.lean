/-
  READINGS for the frames: data that came in by value, their words within what a word holds.
-/
import Derived.Test.YthkbdclnnpcoiaaDoorEu
namespace Go.Proofs.YthkbdclnnpcoiaaDoor.By
open Go.Maps Go.Deep Go.ChangeShapes Go.WideShapes Go.ChangeAt Go.RowKit
open Mem Gm Rf
set_option linter.unusedSimpArgs false
set_option maxRecDepth 100000

section
variable {H : Type} {enc : TypeId × Value → H} {W : World} {fuel : Nat} {held : Bool} {a : Option Addr} {len cap : Nat} {x : DataW H × List MemPlace}
theorem ints_bd (h : DataW.trod enc Tryd.prog W 0 (fun _ => true) held fuel 22 [.slice a len cap] = some x) : ∃ l : List Int, l.length = len ∧ IW W (.slice a len cap) l ∧ ∀ n ∈ l, (Lit.int .i64 n).wf = true := by
  rcases Go.ChangeShapes.open_ints (k := .i64) Tryd.underlying22 Tryd.underlying2 (by kernel_rfl) h with ⟨h1, _⟩ | ⟨ad, len', cap', zs, h1, _, hl, hm, hz, _, hc, hwz⟩
  · rw [List.cons.injEq, Value.slice.injEq] at h1
    obtain ⟨⟨rfl, rfl, rfl⟩, _⟩ := h1
    exact ⟨[], rfl, .nil, fun n hn => absurd hn (by simp)⟩
  · rw [List.cons.injEq, Value.slice.injEq] at h1
    obtain ⟨⟨rfl, rfl, rfl⟩, _⟩ := h1
    simp only [if_true] at hz
    refine ⟨zs.take len, by rw [List.length_take]; omega, ints_slv _ (by rw [List.length_take]; omega) hl hm fun j hj => ?_, fun n hn => hwz n (List.mem_of_mem_take hn)⟩
    rw [hc j (by omega), List.getD_eq_getElem?_getD, List.getD_eq_getElem?_getD, List.getElem?_take, if_pos hj]



end
theorem open_dataB {H : Type} {enc : TypeId × Value → H} {W : World} {base : Nat} {held : Bool} {v : Value} {d : DataW H} {p : List MemPlace} (hv : Value.okWide Tryd.prog W .any base 25 v)
    (h : DataW.Trod enc Tryd.prog W 0 (fun _ => true) held 25 v d p) :
    ∃ kd AW nW cW AR nR cR, v = .agg #[.int .i64 kd, .slice AW nW cW, .slice AR nR cR] ∧ ∃ ws rs, DW W kd AW AR nW cW nR cR ws rs ∧ ∀ n ∈ ws, -9223372036854775808 ≤ n ∧ n ≤ 9223372036854775807 := by
  have k9 : Tryd.prog.cellsOf 25 = 3 := by kernel_rfl
  obtain ⟨cs, rfl, hsz⟩ := okWide_struct Tryd.underlying25 hv
  obtain ⟨c0, c1, c2, rfl⟩ := array3 (hsz.trans k9)
  obtain ⟨fuel, hf⟩ := h
  obtain ⟨xs, m, _, _, hl, hlen, hx⟩ := DataW.trod_struct Tryd.underlying25 hf
  have h0 := hx 0 _ rfl
  have h1 := hx 1 _ rfl
  have h2 := hx 2 _ rfl
  have kI : Tryd.prog.cellsOf 3 = 1 := by kernel_rfl
  have kS : Tryd.prog.cellsOf 22 = 1 := by kernel_rfl
  have kR : Tryd.prog.cellsOf 23 = 1 := by kernel_rfl
  simp [Value.cells, kI, kS, kR] at h0 h1 h2
  have hlen9 : xs.length = 3 := hlen
  have hs : ∀ i, i < 3 → (xs[i]?).isSome = true := fun i hi => by rw [List.getElem?_eq_getElem (by omega)]; rfl
  obtain ⟨z0, rfl, w0⟩ := one_int Tryd.underlying3 h0 (hs 0 (by omega))
  obtain ⟨a1, l1, k1, rfl⟩ := one_slice Tryd.underlying22 h1 (hs 1 (by omega))
  obtain ⟨a2, l2, k2, rfl⟩ := one_slice Tryd.underlying23 h2 (hs 2 (by omega))
  obtain ⟨y1, hy1⟩ := Option.isSome_iff_exists.1 (hs 1 (by omega))
  obtain ⟨y2, hy2⟩ := Option.isSome_iff_exists.1 (hs 2 (by omega))
  rw [hy1] at h1
  rw [hy2] at h2
  obtain ⟨ws, hw1, hw2, hw3⟩ := ints_bd h1
  obtain ⟨rs, hr1, hr2⟩ := relocs_of h2
  exact ⟨_, _, _, _, _, _, _, rfl, ws, rs, ⟨w0, hw1, hw2, hr2⟩, fun n hn => bounds_i64 (hw3 n hn)⟩
end Go.Proofs.YthkbdclnnpcoiaaDoor.By
