/-
  FOR THE FRAMES: an instruction that came in by value, opened; bytes that came in.
-/
import Derived.Test.YtieacapdfeljfaaDoorVe
import Derived.Test.YtieacapdfeljfaaDoorOp
import Derived.OpenShut
import Derived.ChangeOld
import Derived.Lib.SmallJoins
namespace Go.Proofs.YtieacapdfeljfaaDoor.By
open Go.ChangeShapes Go.WideShapes Go.ChangeAt Go.RowKit
open Mem

theorem array5 {α : Type} {cs : Array α} (h : cs.size = 5) : ∃ c0 c1 c2 c3 c4, cs = #[c0, c1, c2, c3, c4] := by
  obtain ⟨l⟩ := cs
  match l, h with
  | [c0, c1, c2, c3, c4], _ => exact ⟨c0, c1, c2, c3, c4, rfl⟩

theorem one_int {H : Type} {enc : TypeId × Value → H} {W : World} {b : Nat} {sp : Nat → Bool} {held : Bool} {fuel : Nat} {t : TypeId} {c : Value} {x : Option (DataW H × List MemPlace)} (ht : Tryd.prog.underlying t = some (.int .i64))
    (h : DataW.trod enc Tryd.prog W b sp held fuel t [c] = x) (hx : x.isSome = true) : ∃ z, c = .int .i64 z ∧ (Lit.int .i64 z).wf = true := by
  obtain ⟨y, rfl⟩ := Option.isSome_iff_exists.1 hx
  obtain ⟨z, hc, _, hw⟩ := DataW.trod_int ht h
  simp at hc
  exact ⟨z, hc, hw⟩

theorem open_ins {H : Type} {enc : TypeId × Value → H} {W : World} {base b : Nat} {sp : Nat → Bool} {held : Bool} {v : Value} {d : DataW H} {p : List MemPlace} (hv : Value.okWide Tryd.prog W .any base 29 v)
    (h : DataW.Trod enc Tryd.prog W b sp held 29 v d p) :
    ∃ o a b' c n, v = .agg #[.int .i64 o, .int .i64 a, .int .i64 b', .int .i64 c, .int .i64 n] ∧ (Lit.int .i64 o).wf = true := by
  have k5 : Tryd.prog.cellsOf 29 = 5 := by kernel_rfl
  obtain ⟨cs, rfl, hsz⟩ := okWide_struct Tryd.underlying29 hv
  obtain ⟨c0, c1, c2, c3, c4, rfl⟩ := array5 (hsz.trans k5)
  obtain ⟨fuel, hf⟩ := h
  obtain ⟨xs, m, _, _, hl, hlen, hx⟩ := DataW.trod_struct Tryd.underlying29 hf
  have h0 := hx 0 _ rfl
  have h1 := hx 1 _ rfl
  have h2 := hx 2 _ rfl
  have h3 := hx 3 _ rfl
  have h4 := hx 4 _ rfl
  simp only [Value.cells] at h0 h1 h2 h3 h4
  have hlen5 : xs.length = 5 := hlen
  obtain ⟨z0, rfl, w0⟩ := one_int Tryd.underlying3 h0 (by rw [List.getElem?_eq_getElem (by omega)]; rfl)
  obtain ⟨z1, rfl, _⟩ := one_int Tryd.underlying3 h1 (by rw [List.getElem?_eq_getElem (by omega)]; rfl)
  obtain ⟨z2, rfl, _⟩ := one_int Tryd.underlying3 h2 (by rw [List.getElem?_eq_getElem (by omega)]; rfl)
  obtain ⟨z3, rfl, _⟩ := one_int Tryd.underlying3 h3 (by rw [List.getElem?_eq_getElem (by omega)]; rfl)
  obtain ⟨z4, rfl, _⟩ := one_int Tryd.underlying2 h4 (by rw [List.getElem?_eq_getElem (by omega)]; rfl)
  exact ⟨z0, z1, z2, z3, z4, rfl, w0⟩

theorem open_bytes {H : Type} {enc : TypeId × Value → H} {W : World} {b : Nat} {held : Bool} {a : Option Addr} {len cap : Nat} {d : DataW H} {p : List MemPlace}
    (h : DataW.Trod enc Tryd.prog W b (fun _ => true) held 30 (.slice a len cap) d p) : ∃ l : List UInt8, l.length = len ∧ SlV W W.heap.size (.slice a len cap) (u8s l) := by
  obtain ⟨fuel, hf⟩ := h
  rcases open_ints Tryd.underlying30 Tryd.underlying5 (by kernel_rfl) hf with ⟨hcs, _⟩ | ⟨x, l, c, zs, hcs, _, hl, hm, hz, _, hcell, hwz⟩
  · simp [Value.cells] at hcs
    obtain ⟨rfl, rfl, rfl⟩ := hcs
    exact slv_of_row (zs := []) (.inl ⟨rfl, rfl, rfl, rfl⟩)
  · simp [Value.cells] at hcs
    obtain ⟨rfl, rfl, rfl⟩ := hcs
    exact slv_of_row (.inr ⟨_, rfl, hl, hm, by simpa using hz, hcell, hwz⟩)
end Go.Proofs.YtieacapdfeljfaaDoor.By
