/-
  READING for the frames: a function that came in by value.
-/
import Derived.Test.YthkbdclnnpcoiaaUm
import Derived.ChangeOld
namespace Go.Proofs.Ythkbdclnnpcoiaa.By
open Go.Maps Go.Deep Go.ChangeShapes Go.WideShapes Go.ChangeAt Go.RowKit
open Mem Gm Rf

theorem array9 {α : Type} {cs : Array α} (h : cs.size = 9) : ∃ c0 c1 c2 c3 c4 c5 c6 c7 c8, cs = #[c0, c1, c2, c3, c4, c5, c6, c7, c8] := by
  obtain ⟨l⟩ := cs
  match l, h with
  | [c0, c1, c2, c3, c4, c5, c6, c7, c8], _ => exact ⟨c0, c1, c2, c3, c4, c5, c6, c7, c8, rfl⟩

section
variable {H : Type} {enc : TypeId × Value → H} {W : World} {held : Bool} {fuel : Nat} {t : TypeId} {c : Value} {x : Option (DataW H × List MemPlace)}
theorem one_int (ht : Try.prog.underlying t = some (.int .i64)) (h : DataW.trod enc Try.prog W 0 (fun _ => true) held fuel t [c] = x) (hx : x.isSome = true) : ∃ z, c = .int .i64 z ∧ (Lit.int .i64 z).wf = true := by
  obtain ⟨y, rfl⟩ := Option.isSome_iff_exists.1 hx
  obtain ⟨z, hc, _, hw⟩ := DataW.trod_int ht h
  simp at hc
  exact ⟨z, hc, hw⟩
theorem one_bool (ht : Try.prog.underlying t = some .bool) (h : DataW.trod enc Try.prog W 0 (fun _ => true) held fuel t [c] = x) (hx : x.isSome = true) : ∃ z, c = .bool z := by
  obtain ⟨y, rfl⟩ := Option.isSome_iff_exists.1 hx
  obtain ⟨z, hc, _⟩ := DataW.trod_bool ht h
  simp at hc
  exact ⟨z, hc⟩
theorem one_slice {e : TypeId} (ht : Try.prog.underlying t = some (.slice e)) (h : DataW.trod enc Try.prog W 0 (fun _ => true) held fuel t [c] = x) (hx : x.isSome = true) : ∃ a l k, c = .slice a l k := by
  obtain ⟨y, rfl⟩ := Option.isSome_iff_exists.1 hx
  rcases open_slice ht h with ⟨hcs, _⟩ | ⟨ad, l, c, m, n, D, Pl, hcs, _⟩
  all_goals
    simp only [List.cons.injEq, and_true] at hcs
    exact ⟨_, _, _, hcs⟩
end

theorem open_func {H : Type} {enc : TypeId × Value → H} {W : World} {base : Nat} {held : Bool} {v : Value} {d : DataW H} {p : List MemPlace} (hv : Value.okWide Try.prog W .any base 27 v)
    (h : DataW.Trod enc Try.prog W 0 (fun _ => true) held 27 v d p) :
    ∃ k0 AK nK cK pd ns f t AL nL cL A n c AR nR cR, v = .agg #[.int .i64 k0, .slice AK nK cK, .int .i64 pd, .bool ns, .int .i64 f, .int .i64 t, .slice AL nL cL, .slice A n c, .slice AR nR cR] ∧ ∃ O T, CW W A n c O T := by
  have k9 : Try.prog.cellsOf 27 = 9 := by kernel_rfl
  obtain ⟨cs, rfl, hsz⟩ := okWide_struct Try.underlying27 hv
  obtain ⟨c0, c1, c2, c3, c4, c5, c6, c7, c8, rfl⟩ := array9 (hsz.trans k9)
  obtain ⟨fuel, hf⟩ := h
  obtain ⟨xs, m, _, _, hl, hlen, hx⟩ := DataW.trod_struct Try.underlying27 hf
  have h0 := hx 0 _ rfl
  have h1 := hx 1 _ rfl
  have h2 := hx 2 _ rfl
  have h3 := hx 3 _ rfl
  have h4 := hx 4 _ rfl
  have h5 := hx 5 _ rfl
  have h6 := hx 6 _ rfl
  have h7 := hx 7 _ rfl
  have h8 := hx 8 _ rfl
  have kI : Try.prog.cellsOf 3 = 1 := by kernel_rfl
  have kB : Try.prog.cellsOf 4 = 1 := by kernel_rfl
  have kS : Try.prog.cellsOf 22 = 1 := by kernel_rfl
  have kL : Try.prog.cellsOf 23 = 1 := by kernel_rfl
  have kC : Try.prog.cellsOf 24 = 1 := by kernel_rfl
  have kR : Try.prog.cellsOf 25 = 1 := by kernel_rfl
  simp [Value.cells, kI, kB, kS, kL, kC, kR] at h0 h1 h2 h3 h4 h5 h6 h7 h8
  have hlen9 : xs.length = 9 := hlen
  have hs : ∀ i, i < 9 → (xs[i]?).isSome = true := fun i hi => by rw [List.getElem?_eq_getElem (by omega)]; rfl
  obtain ⟨z0, rfl, _⟩ := one_int Try.underlying3 h0 (hs 0 (by omega))
  obtain ⟨a1, l1, k1, rfl⟩ := one_slice Try.underlying22 h1 (hs 1 (by omega))
  obtain ⟨z2, rfl, _⟩ := one_int Try.underlying3 h2 (hs 2 (by omega))
  obtain ⟨z3, rfl⟩ := one_bool Try.underlying4 h3 (hs 3 (by omega))
  obtain ⟨z4, rfl, _⟩ := one_int Try.underlying3 h4 (hs 4 (by omega))
  obtain ⟨z5, rfl, _⟩ := one_int Try.underlying3 h5 (hs 5 (by omega))
  obtain ⟨a6, l6, k6, rfl⟩ := one_slice Try.underlying23 h6 (hs 6 (by omega))
  obtain ⟨a7, l7, k7, rfl⟩ := one_slice Try.underlying24 h7 (hs 7 (by omega))
  obtain ⟨a8, l8, k8, rfl⟩ := one_slice Try.underlying25 h8 (hs 8 (by omega))
  obtain ⟨y, hy⟩ := Option.isSome_iff_exists.1 (hs 7 (by omega))
  rw [hy] at h7
  exact ⟨_, _, _, _, _, _, _, _, _, _, _, _, _, _, _, _, _, rfl, code_of h7⟩
end Go.Proofs.Ythkbdclnnpcoiaa.By
