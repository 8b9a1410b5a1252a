/-
  WALK: known of layer 3's laws: it answers true; what was there stays.
-/
import Derived.Test.YtlpmndljjdljmaaRo
import Derived.Lib.SlBytesConst
namespace Go.Proofs.Ytlpmndljjdljmaa.By
open Go.ChangeShapes Go.WideShapes Go.ChangeAt Go.RowKit
open Mem Sm

/-- A new row of bytes of the call's own, whole. -/
theorem new_bytes (w : World) (l : List UInt8) (hl : l.length ≤ 1000) : SlV (w.alloc (.cells (u8s l).toArray 5)) (w.alloc (.cells (u8s l).toArray 5)).heap.size (.slice (some ⟨w.heap.size, 0, none⟩) l.length l.length) (u8s l) := by
  have h := SlV.new w (u8s l) 5 (by rw [u8s_length]; unfold maxLen; omega)
  rw [u8s_length] at h
  exact slv_size h

/-- A constant text as bytes: a new row, marked behind its end. -/
theorem new_const (w : World) (l : List UInt8) (hl : l.length ≤ 1000) : SlV (w.alloc (.cells (u8s l).toArray 5 (l.length, l.length + 1))) (w.alloc (.cells (u8s l).toArray 5 (l.length, l.length + 1))).heap.size (.slice (some ⟨w.heap.size, 0, none⟩) l.length l.length) (u8s l) := by
  have h := SlV.at_ (w := w.alloc (.cells (u8s l).toArray 5 (l.length, l.length + 1))) (B := (w.alloc (.cells (u8s l).toArray 5 (l.length, l.length + 1))).heap.size) ⟨w.heap.size, 0, none⟩ l.length (u8s l) (by rw [u8s_length]; omega) (by unfold maxLen; omega) (Row.here fun j u hu => by
    rw [Mem.add_plain, Nat.zero_add, cell_of_row _ w.heap.size j (u8s l).toArray 5 (l.length, l.length + 1) (heap_alloc_new w _)]
    simpa using hu)
  rwa [u8s_length] at h

theorem below_alloc (w : World) (o : Obj) : Below w.heap.size w (w.alloc o) := (Below.refl _ _).alloc (Nat.le_refl _) o

set_option maxHeartbeats 400000 in
theorem known_sum (w : World) : Calls Try.prog 17 #[] w fun e w' => e = .returned (.bool true) ∧ Below w.heap.size w w' := by
  have HS1 := Lib.hid (show Calls Try.prog 22 #[.slice (some ⟨w.heap.size, 0, none⟩) 2 2] (w.alloc (.cells #[.int .u8 97, .int .u8 98] 5 (2, 3))) (Owns (w.alloc (.cells #[.int .u8 97, .int .u8 98] 5 (2, 3))) (u8s (sealB [97, 98]))) from seal_any _ [97, 98] _ (new_const w [97, 98] (by decide)) (by decide))
  have HB1 := Lib.hid (below_alloc w (.cells #[.int .u8 97, .int .u8 98] 5 (2, 3)))
  have kc := fun (w : World) (C : Array Value) (n c : Nat) => Lib.run_convert_bytes_const (P := Try.prog) w 22 5 C n c Try.underlying22 Try.underlying5
  go_enter Try.func17, Try.ntmps17
  go_wp2_with fail
  refine HS1.out.mono ?_
  rintro e w1 ⟨v1, rfl, hown, hb⟩
  have HV1 := Lib.hid (SlV.of_own hown)
  have HB2 := Lib.hid (HB1.out.trans (hb.mono (HB1.out.size)))
  clear hown hb HS1 HB1
  have ho := open_any w1 _ v1 HV1.out (by rw [seal_length]; decide)
  unfold Opens at ho
  rw [(open_seal [97, 98]).1, (open_seal [97, 98]).2] at ho
  have HO := Lib.hid ho
  clear ho
  go_wp2_with fail
  refine HO.out.mono ?_
  rintro e w2 ⟨v2, rfl, hv2, hb2⟩
  have HV2 := Lib.hid hv2
  have HB3 := Lib.hid (HB2.out.trans (hb2.mono HB2.out.size))
  clear hv2 hb2 HO HB2 HV1
  have HO := Lib.hid (show Calls Try.prog 18 #[.slice (some ⟨w2.heap.size, 0, none⟩) 3 3] (w2.alloc (.cells #[.int .u8 97, .int .u8 98, .int .u8 99] 5 (3, 4))) (fun e w' => ∃ v, e = .returned (.tuple #[v, .int .i64 5]) ∧ SlV w' w'.heap.size v (u8s []) ∧ Below (w2.alloc (.cells #[.int .u8 97, .int .u8 98, .int .u8 99] 5 (3, 4))).heap.size (w2.alloc (.cells #[.int .u8 97, .int .u8 98, .int .u8 99] 5 (3, 4))) w') from open_any _ [97, 98, 99] _ (new_const w2 [97, 98, 99] (by decide)) (by decide))
  have HA := Lib.hid (HB3.out.trans ((below_alloc w2 (.cells #[.int .u8 97, .int .u8 98, .int .u8 99] 5 (3, 4))).mono HB3.out.size))
  have HAS := Lib.hid (below_alloc w2 (.cells #[.int .u8 97, .int .u8 98, .int .u8 99] 5 (3, 4)))
  go_wp2_with fail
  refine HO.out.mono ?_
  rintro e w3 ⟨v3, rfl, _, hb3⟩
  have HB4 := Lib.hid (HA.out.trans (hb3.mono HA.out.size))
  have HV3 := Lib.hid ((((HV2.out.below HAS.out).more HAS.out.size).below hb3).more hb3.size)
  clear hb3 HA HAS HO HB3 HV2
  go_wp2_with fail
  refine (new_adder w3).mono ?_
  rintro e w4 ⟨rfl, ha, rfl⟩
  have HD := Lib.hid (show Calls Try.prog 25 #[.pointer (some ⟨w3.heap.size, 0, none⟩), .slice (some ⟨w3.heap.size + 1, 0, none⟩) 2 2] ((w3.alloc (.cells #[.int .i64 1, .int .i64 0, .bool true] 51)).alloc (.cells #[.int .u8 97, .int .u8 98] 5)) (fun e w' => e = .returned (.tuple #[]) ∧ Adr w' w3.heap.size [97, 98] ∧ ((w3.alloc (.cells #[.int .i64 1, .int .i64 0, .bool true] 51)).alloc (.cells #[.int .u8 97, .int .u8 98] 5)).grownBy w' (some w3.heap.size)) from by
    have hr := new_bytes (w3.alloc (.cells #[.int .i64 1, .int .i64 0, .bool true] 51)) [97, 98] (by decide)
    have hz : (w3.alloc (.cells #[.int .i64 1, .int .i64 0, .bool true] 51)).heap.size = w3.heap.size + 1 := by simp
    have hd := add_any _ w3.heap.size [] [97, 98] _ _ (Blk.alloc ha _) hr (fun ad n c e _ => by injection e with e; injection e with e; rw [← e, hz]; simp)
    rw [hz] at hd
    exact hd)
  have HB5 := Lib.hid (HB4.out.trans (((below_alloc w3 (.cells #[.int .i64 1, .int .i64 0, .bool true] 51)).alloc (by simp) (.cells #[.int .u8 97, .int .u8 98] 5)).mono HB4.out.size))
  have HB5a := Lib.hid ((below_alloc w3 (.cells #[.int .i64 1, .int .i64 0, .bool true] 51)).alloc (by simp) (.cells #[.int .u8 97, .int .u8 98] 5))
  clear ha
  go_wp2_with fail
  refine HD.out.mono ?_
  rintro e w5 ⟨rfl, ha5, hg5⟩
  have hz5 : w3.heap.size < w5.heap.size := ha5.lt
  have HA5 := Lib.hid ha5
  have hsw := HB4.out.size
  have HB6 := Lib.hid (below_of_only HB5.out hg5 (by simp; omega) hsw)
  have HV5 := Lib.hid (HV3.out.below (below_of_only HB5a.out hg5 (by simp; omega) (Nat.le_refl _)) |>.more (Nat.le_of_lt hz5))
  clear ha5 hg5 HB5 HB5a HD HB4 HV3
  have HO0 := Lib.hid (show Calls Try.prog 20 #[.slice none 0 0] w5 (fun e w' => e = .returned (.int .i64 1) ∧ Below w5.heap.size w5 w') from by
    have ho := of_any w5 [] w5.heap.size (.slice none 0 0) .nil (Nat.le_refl _)
    have h1 : ((sumV [] : Nat) : Int) = 1 := rfl
    rw [h1] at ho
    exact ho)
  go_wp2_with fail
  refine HO0.out.mono ?_
  rintro e w6 ⟨rfl, hb6⟩
  have HA6 := Lib.hid (show Adr w6 w3.heap.size [97, 98] from HA5.out.below hb6 hz5)
  have hz6 : w3.heap.size < w6.heap.size := Nat.lt_of_lt_of_le hz5 hb6.size
  have HB7 := Lib.hid (HB6.out.trans (hb6.mono HB6.out.size))
  have hc6 := text_of (HV5.out.below hb6)
  clear hb6 HO0 HB6 HV5 HA5 hz5
  have HSU := Lib.hid (sum_any w6 _ _ HA6.out)
  go_wp2_with fail
  refine HSU.out.mono ?_
  rintro e w7 ⟨rfl, q, hw7⟩
  have HB8 := Lib.hid (show Below w.heap.size w w7 by rw [hw7]; exact below_drewN HB7.out q)
  clear hc6 HSU hw7
  have HOL := Lib.hid (show Calls Try.prog 20 #[.slice (some ⟨w7.heap.size, 0, none⟩) 2 2] (w7.alloc (.cells #[.int .u8 97, .int .u8 98] 5 (2, 3))) (fun e w' => e = .returned (.int .i64 (sumV [97, 98] : Int)) ∧ Below (w7.alloc (.cells #[.int .u8 97, .int .u8 98] 5 (2, 3))).heap.size (w7.alloc (.cells #[.int .u8 97, .int .u8 98] 5 (2, 3))) w') from
    of_any _ [97, 98] _ _ (new_const w7 [97, 98] (by decide)) (Nat.le_refl _))
  have HBL := Lib.hid (HB8.out.trans ((below_alloc w7 (.cells #[.int .u8 97, .int .u8 98] 5 (2, 3))).mono HB8.out.size))
  generalize (sumV [97, 98] : Int) = s at HOL ⊢
  go_wp2_with fail
  refine HOL.out.mono ?_
  rintro e w8 ⟨rfl, hb8⟩
  have HB9 := Lib.hid (HBL.out.trans (hb8.mono HBL.out.size))
  clear hb8 HBL HB8 HOL
  go_wp2_with fail
  go_ret
  exact ⟨rfl, HB9.out⟩
end Go.Proofs.Ytlpmndljjdljmaa.By
