/-
  WALKS: sum.Seal and the document's own Seal: the bytes, and behind them their sum.
-/
import Derived.Test.YtlpmndljjdljmaaSq
import Derived.Test.YtlpmndljjdljmaaOf
import Derived.Test.YtlpmndljjdljmaaRp
namespace Go.Proofs.Ytlpmndljjdljmaa.By
open Go.ChangeShapes Go.WideShapes Go.ChangeAt Go.RowKit
open Mem Sm

theorem slv_size {w : World} {B : Nat} {v : Value} {vs : List Value} (h : SlV w B v vs) : SlV w w.heap.size v vs := by
  cases h with
  | nil => exact .nil
  | at_ ad cap _ hc hm hr => exact .at_ ad cap _ hc hm (Row.here fun j u hu => (hr j u hu).2)

theorem putB4 (n : Int) : putB n 4 = be n 4 := rfl

theorem seal_any (w : World) (l : List UInt8) (v : Value) (h : SlV w w.heap.size v (u8s l)) (hl : l.length ≤ 1000000) :
    Calls Try.prog 22 #[v] w (Owns w (u8s (sealB l))) := by
  have HS := Lib.hid h
  have HL := Lib.hid hl
  have HO := Lib.hid (of_any w l _ v h (Nat.le_refl _))
  clear h hl
  go_enter Try.func22, Try.ntmps22
  go_wp2_with fail
  refine HO.out.mono ?_
  rintro e w1 ⟨rfl, hb⟩
  have HB := Lib.hid hb
  clear hb
  go_wp2_with fail
  refine (put_any v (u8s l) _ 4 _ (slv_size (HS.out.below HB.out)) (u8s_one l) (by rw [u8s_length]; have := HL.out; omega)).mono ?_
  rintro e w2 ho
  have ho2 := ho.back HB.out
  rw [putB4, ← u8s_append] at ho2
  have HO2 := Lib.hid ho2
  obtain ⟨v2, rfl, _⟩ := ho
  clear ho2
  go_wp2_with fail
  go_ret
  exact HO2.out

theorem rseal_any (w : World) (l : List UInt8) (v : Value) (h : SlV w w.heap.size v (u8s l)) (hl : l.length ≤ 1000000) :
    Calls Try.prog 23 #[v] w (Owns w (u8s (sealB l))) := by
  have HS := Lib.hid h
  have HL := Lib.hid hl
  have HO := Lib.hid (rof_any w l _ v h (by omega))
  clear h hl
  go_enter Try.func23, Try.ntmps23
  go_wp2_with fail
  refine HO.out.mono ?_
  rintro e w1 ⟨rfl, q, rfl⟩
  go_wp2_with fail
  refine (rput_any v (u8s l) _ 4 (w.drewN q) (show SlV (w.drewN q) (w.drewN q).heap.size v (u8s l) from HS.out.keep fun _ _ => rfl) (u8s_one l) (by rw [u8s_length]; have := HL.out; omega)).mono ?_
  rintro e w2 ho
  have ho2 := ho.back (below_drewN (Below.refl _ _) q)
  rw [putB4, ← u8s_append] at ho2
  have HO2 := Lib.hid ho2
  obtain ⟨v2, rfl, _⟩ := ho
  clear ho2
  go_wp2_with fail
  go_ret
  exact HO2.out
end Go.Proofs.Ytlpmndljjdljmaa.By
