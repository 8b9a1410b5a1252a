/-
  FOR THE FRAMES: an instruction, and texts, that came in, opened; what a row's list gives of what the calls lean on.
-/
import Derived.Test.YtnplhpbbdgnmiaaGreatDoorMh
import Derived.Test.YtnplhpbbdgnmiaaGreatDoorVe
import Derived.OpenShut
import Derived.ChangeOld
import Derived.Lib.SmallJoins
import Derived.Stop.LaidErr
import Derived.Shelf.Vars
namespace Go.Proofs.YtnplhpbbdgnmiaaGreatDoor.Ln
open Go.ChangeShapes Go.WideShapes Go.ChangeAt Go.RowKit
open Mem

theorem array5 {α : Type} {cs : Array α} (h : cs.size = 5) : ∃ c0 c1 c2 c3 c4, cs = #[c0, c1, c2, c3, c4] := by
  obtain ⟨l⟩ := cs
  match l, h with
  | [c0, c1, c2, c3, c4], _ => exact ⟨c0, c1, c2, c3, c4, rfl⟩

theorem one_int {H : Type} {enc : TypeId × Value → H} {W : World} {b : Nat} {sp : Nat → Bool} {held : Bool} {fuel : Nat} {t : TypeId} {c : Value} {x : Option (DataW H × List MemPlace)} (ht : Tryz.prog.underlying t = some (.int .i64))
    (h : DataW.trod enc Tryz.prog W b sp held fuel t [c] = x) (hx : x.isSome = true) : ∃ z, c = .int .i64 z ∧ I64 z := by
  obtain ⟨y, rfl⟩ := Option.isSome_iff_exists.1 hx
  obtain ⟨z, hc, _, hw⟩ := DataW.trod_int ht h
  simp at hc
  exact ⟨z, hc, bounds_i64 hw⟩

set_option maxRecDepth 100000 in
theorem open_ins {H : Type} {enc : TypeId × Value → H} {W : World} {base b : Nat} {sp : Nat → Bool} {held : Bool} {v : Value} {d : DataW H} {p : List MemPlace} (hv : Value.okWide Tryz.prog W .any base 34 v)
    (h : DataW.Trod enc Tryz.prog W b sp held 34 v d p) :
    ∃ o a b' c n, v = .agg #[.int .i64 o, .int .i64 a, .int .i64 b', .int .i64 c, .int .i64 n] ∧ I64 o ∧ I64 a ∧ I64 b' ∧ I64 c ∧ I64 n := by
  have k5 : Tryz.prog.cellsOf 34 = 5 := by kernel_rfl
  obtain ⟨cs, rfl, hsz⟩ := okWide_struct Tryz.underlying34 hv
  obtain ⟨c0, c1, c2, c3, c4, rfl⟩ := array5 (hsz.trans k5)
  obtain ⟨fuel, hf⟩ := h
  obtain ⟨xs, m, _, _, hl, hlen, hx⟩ := DataW.trod_struct Tryz.underlying34 hf
  have h0 := hx 0 _ rfl
  have h1 := hx 1 _ rfl
  have h2 := hx 2 _ rfl
  have h3 := hx 3 _ rfl
  have h4 := hx 4 _ rfl
  simp only [Value.cells] at h0 h1 h2 h3 h4
  have hlen5 : xs.length = 5 := hlen
  obtain ⟨z0, rfl, w0⟩ := one_int Tryz.underlying3 h0 (by rw [List.getElem?_eq_getElem (by omega)]; rfl)
  obtain ⟨z1, rfl, w1⟩ := one_int Tryz.underlying3 h1 (by rw [List.getElem?_eq_getElem (by omega)]; rfl)
  obtain ⟨z2, rfl, w2⟩ := one_int Tryz.underlying3 h2 (by rw [List.getElem?_eq_getElem (by omega)]; rfl)
  obtain ⟨z3, rfl, w3⟩ := one_int Tryz.underlying3 h3 (by rw [List.getElem?_eq_getElem (by omega)]; rfl)
  obtain ⟨z4, rfl, w4⟩ := one_int Tryz.underlying2 h4 (by rw [List.getElem?_eq_getElem (by omega)]; rfl)
  exact ⟨z0, z1, z2, z3, z4, rfl, w0, w1, w2, w3, w4⟩

theorem slv_of_texts {W : World} {x : Addr} {len cap : Nat} {ss : List ByteArray} (hl : len ≤ cap) (hm : cap ≤ maxLen) (hz : len ≤ ss.length) (hcell : ∀ i, i < ss.length → W.cell? (x.add i) = some (.string (ss.getD i ByteArray.empty))) :
    ∃ l : List ByteArray, l.length = len ∧ SlV W W.heap.size (.slice (some x) len cap) (strs l) := by
  have hlen : (ss.take len).length = len := by simp; omega
  refine ⟨ss.take len, hlen, ?_⟩
  have h := SlV.at_ (w := W) (B := W.heap.size) x cap (strs (ss.take len)) (by rw [strs_length, hlen]; exact hl) hm (Row.here fun j u hu => by
    have hj : j < len := by
      have := (List.getElem?_eq_some_iff.1 hu).1
      rw [strs_length, hlen] at this
      exact this
    rw [hcell j (by omega)]
    rw [← hu]
    have hjs : j < ss.length := by omega
    simp [strs, hj, hjs, List.getD])
  rwa [strs_length, hlen] at h

theorem sentinel {W : World} {n : String} {text : List UInt8} {r : List (String × DataW Unit)} {g : Nat} (h : laidMet Tryz.prog ((n, .iface "*errors.errorString" (.ptr (.agg [.lit (.string text)]))) :: r) W)
    (hg : Tryz.prog.globalNamed n = some g) (ht : (Tryz.prog.globals[g]?).map (·.type) = some 42) (hrow : ∀ u, Tryz.prog.typeName? 3 u = some "*errors.errorString" → u = 129) : ∃ te pe, W.cell? ⟨g, 0, none⟩ = some (.iface te pe) := by
  obtain ⟨a, s, hv, _⟩ := laid_sentinel h hg ht Tryz.underlying42 hrow Tryz.underlying129 Tryz.underlying131 rfl rfl Tryz.underlying9 (by kernel_rfl) (by kernel_rfl)
  exact ⟨_, _, (World.var?_cell hg hv 0).trans rfl⟩

set_option maxRecDepth 100000 in
theorem mx_of_shaped {W : World} (h : W.ShapedOpen Tryz.prog) : Mx W :=
  cell_of_shapedOpen_int (g := 6) h (of_decide_eq_true (by kernel_rfl)) rfl rfl (by kernel_rfl) (by kernel_rfl) Tryz.underlying3
end Go.Proofs.YtnplhpbbdgnmiaaGreatDoor.Ln
