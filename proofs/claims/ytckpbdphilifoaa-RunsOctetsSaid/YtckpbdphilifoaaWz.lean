/-
  FOR THE FRAME of RunsOctets: what a []byte that came in reads as.
-/
import Derived.Test.YtckpbdphilifoaaWy
import Derived.Test.YtckpbdphilifoaaWp
import Derived.ChangeShapes
namespace Go.Proofs.Ytckpbdphilifoaa.By
open Go.ChangeShapes Go.WideShapes Go.ChangeAt Go.RowKit
open Mem

/-- The bytes that numbers are. -/
def u8Of (zs : List Int) : List UInt8 := zs.map fun z => UInt8.ofNat z.toNat

theorem slv_of_row {w : World} {a : Option Addr} {len cap : Nat} {zs : List Int}
    (h : (a = none ∧ len = 0 ∧ cap = 0 ∧ zs = []) ∨ ∃ x, a = some x ∧ len ≤ cap ∧ cap ≤ maxLen ∧ zs.length = cap ∧ (∀ i, i < zs.length → w.cell? (x.add i) = some (.int .u8 (zs.getD i 0))) ∧ ∀ n ∈ zs, (Lit.int .u8 n).wf = true) :
    ∃ l : List UInt8, l.length = len ∧ SlV w w.heap.size (.slice a len cap) (u8s l) := by
  rcases h with ⟨rfl, rfl, rfl, rfl⟩ | ⟨x, rfl, hl, hm, hz, hc, hw⟩
  · exact ⟨[], rfl, .nil⟩
  · refine ⟨u8Of (zs.take len), by simp [u8Of]; omega, ?_⟩
    have hlen : (u8s (u8Of (zs.take len))).length = len := by simp [u8s, u8Of]; omega
    have := SlV.at_ (w := w) (B := w.heap.size) x cap (u8s (u8Of (zs.take len))) (by rw [hlen]; exact hl) hm (Row.here fun j u hu => by
      have hj : j < len := by
        have := (List.getElem?_eq_some_iff.1 hu).1
        rwa [hlen] at this
      have hjz : j < zs.length := by omega
      rw [hc j hjz]
      have hb := bounds_u8 (hw _ (List.getElem_mem hjz))
      have e : u = .int .u8 zs[j] := by
        have h2 : (u8s (u8Of (zs.take len)))[j]? = some (.int .u8 ((UInt8.ofNat (zs[j]).toNat).toNat : Int)) := by
          simp [u8s, u8Of, hj, hjz]
        rw [h2] at hu
        injection hu with hu
        rw [← hu]
        congr 1
        have : (zs[j]).toNat < 256 := by omega
        simp
        omega
      rw [e]
      simp [List.getD, hjz])
    rwa [hlen] at this

theorem open_bytes {H : Type} {enc : TypeId × Value → H} {W : World} {b : Nat} {held : Bool} {a : Option Addr} {len cap : Nat} {d : DataW H} {p : List MemPlace}
    (h : DataW.Trod enc Try.prog W b (fun _ => true) held 37 (.slice a len cap) d p) : ∃ l : List UInt8, l.length = len ∧ SlV W W.heap.size (.slice a len cap) (u8s l) := by
  obtain ⟨fuel, hf⟩ := h
  rcases open_ints Try.underlying37 Try.underlying5 (by kernel_rfl) hf with ⟨hcs, _⟩ | ⟨x, l, c, zs, hcs, _, hl, hm, hz, _, hcell, hwz⟩
  · simp [Value.cells] at hcs
    obtain ⟨rfl, rfl, rfl⟩ := hcs
    exact slv_of_row (zs := []) (.inl ⟨rfl, rfl, rfl, rfl⟩)
  · simp [Value.cells] at hcs
    obtain ⟨rfl, rfl, rfl⟩ := hcs
    exact slv_of_row (.inr ⟨_, rfl, hl, hm, by simpa using hz, hcell, hwz⟩)
def OW (w : World) (v : Value) (l : List UInt8) : Prop := SlV w w.heap.size v (u8s l)
theorem bytes_of {H : Type} {enc : TypeId × Value → H} {W : World} {held : Bool} {fuel : Nat} {a : Option Addr} {len cap : Nat} {x : DataW H × List MemPlace}
    (h : DataW.trod enc Try.prog W 0 (fun _ => true) held fuel 37 [.slice a len cap] = some x) : ∃ l : List UInt8, l.length = len ∧ OW W (.slice a len cap) l := by
  obtain ⟨d, p⟩ := x
  exact open_bytes (b := 0) ⟨fuel, by simpa [Value.cells] using h⟩
end Go.Proofs.Ytckpbdphilifoaa.By
