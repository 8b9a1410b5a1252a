/-
  WHAT A []byte THAT CAME IN READS AS; the calls of layer 2's laws, offered at any world that is behind one world.
-/
import Derived.Test.YtieacapdfeljfaaDoorRp
import Derived.Test.YtieacapdfeljfaaDoorRt
import Derived.ChangeShapes
namespace Go.Proofs.YtieacapdfeljfaaDoor.By
open Go.ChangeShapes Go.WideShapes Go.ChangeAt Go.RowKit
open Mem

/-- The bytes that numbers are. -/
def bytesOf (zs : List Int) : List UInt8 := zs.map fun z => UInt8.ofNat z.toNat

theorem slv_of_row {w : World} {a : Option Addr} {len cap : Nat} {zs : List Int}
    (h : (a = none ∧ len = 0 ∧ cap = 0 ∧ zs = []) ∨ ∃ x, a = some x ∧ len ≤ cap ∧ cap ≤ maxLen ∧ zs.length = cap ∧ (∀ i, i < zs.length → w.cell? (x.add i) = some (.int .u8 (zs.getD i 0))) ∧ ∀ n ∈ zs, (Lit.int .u8 n).wf = true) :
    ∃ l : List UInt8, l.length = len ∧ SlV w w.heap.size (.slice a len cap) (u8s l) := by
  rcases h with ⟨rfl, rfl, rfl, rfl⟩ | ⟨x, rfl, hl, hm, hz, hc, hw⟩
  · exact ⟨[], rfl, .nil⟩
  · refine ⟨bytesOf (zs.take len), by simp [bytesOf]; omega, ?_⟩
    have hlen : (u8s (bytesOf (zs.take len))).length = len := by simp [u8s, bytesOf]; omega
    have := SlV.at_ (w := w) (B := w.heap.size) x cap (u8s (bytesOf (zs.take len))) (by rw [hlen]; exact hl) hm (Row.here fun j u hu => by
      have hj : j < len := by
        have := (List.getElem?_eq_some_iff.1 hu).1
        rwa [hlen] at this
      have hjz : j < zs.length := by omega
      rw [hc j hjz]
      have hb := bounds_u8 (hw _ (List.getElem_mem hjz))
      have e : u = .int .u8 zs[j] := by
        have h2 : (u8s (bytesOf (zs.take len)))[j]? = some (.int .u8 ((UInt8.ofNat (zs[j]).toNat).toNat : Int)) := by
          simp [u8s, bytesOf, hj, hjz]
        rw [h2] at hu
        injection hu with hu
        rw [← hu]
        congr 1
        have : (zs[j]).toNat < 256 := by omega
        simp
        omega
      rw [e]
      simp [List.getD, hjz])
    rwa [hlen] at this

/-- A call that answers bytes in new memory: the text that they are, in any world behind. -/
def Says (w0 : World) (t : ByteArray) (e : Ending) (w' : World) : Prop :=
  ∃ v, e = .returned v ∧ (convert 30 9 v).run Tryd.prog w' = .ok (.string t) w' ∧ Below w0.heap.size w0 w'

theorem Owns.says {w0 w w' : World} {l : List UInt8} {e : Ending} (h : Owns w (u8s l) e w') (hb : Below w0.heap.size w0 w) : Says w0 ⟨l.toArray⟩ e w' := by
  obtain ⟨v, he, hown, hb2⟩ := h
  exact ⟨v, he, text_of (SlV.of_own hown), hb.trans (hb2.mono hb.size)⟩

/-- The document's own Put, offered at any world that is behind w0. -/
theorem rput_says (w0 w : World) (v : Value) (l : List UInt8) (n k : Int) (h : SlV w0 w0.heap.size v (u8s l)) (hl : l.length ≤ 1000000) (hb : Below w0.heap.size w0 w) :
    Calls Tryd.prog 43 #[v, .int .i64 n, .int .i64 k] w (Says w0 ⟨(l ++ putB n k).toArray⟩) := by
  refine (rput_any v (u8s l) n k w ((h.below hb).more hb.size) (u8s_one l) (by rw [u8s_length]; omega)).mono fun e w' ho => ?_
  rw [← u8s_append] at ho
  exact ho.says hb

end Go.Proofs.YtieacapdfeljfaaDoor.By
