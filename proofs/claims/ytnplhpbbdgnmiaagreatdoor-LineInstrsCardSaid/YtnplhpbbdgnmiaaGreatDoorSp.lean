/-
  WALKS of layer 5: Parse, and the document's own.
-/
import Derived.Test.YtnplhpbbdgnmiaaGreatDoorSx
namespace Go.Proofs.YtnplhpbbdgnmiaaGreatDoor.Si
open Go.RowKit

def parN (l : List UInt8) : Int := ((txs.findIdx? (· == l)).getD 0 : Nat)
def parB (l : List UInt8) : Bool := (txs.findIdx? (· == l)).isSome

theorem par_hit (l : List UInt8) (k : Nat) (hk : k < 9) (h : txs.getD k [] = l) : parN l = k ∧ parB l = true := by
  subst h
  revert k
  decide

theorem par_miss (l : List UInt8) (h : ∀ j, j < 9 → txs.getD j [] ≠ l) : parN l = 0 ∧ parB l = false := by
  have : txs.findIdx? (· == l) = none := by
    rw [List.findIdx?_eq_none_iff]
    intro x hx
    obtain ⟨j, hj, rfl⟩ := List.getElem_of_mem hx
    have := h j hj
    rw [beq_eq_false_iff_ne]
    intro e
    exact this (by rw [← e]; simp [List.getD, List.getElem?_eq_getElem hj])
  unfold parN parB
  rw [this]
  exact ⟨rfl, rfl⟩

theorem nine (k : Nat) (h : k ≤ 9) : k = 0 ∨ k = 1 ∨ k = 2 ∨ k = 3 ∨ k = 4 ∨ k = 5 ∨ k = 6 ∨ k = 7 ∨ k = 8 ∨ k = 9 := by omega

theorem txt_list (k : Nat) : (txB k).data.toList = txs.getD k [] := rfl

theorem eq_list (a b : ByteArray) (h : a.data.toList = b.data.toList) : a = b := by
  obtain ⟨⟨a⟩⟩ := a
  obtain ⟨⟨b⟩⟩ := b
  simp at h
  rw [h]

theorem idx0 (w : World) : (Instr.index 106 (.agg #[.string (txB 0), .string (txB 1), .string (txB 2), .string (txB 3), .string (txB 4), .string (txB 5), .string (txB 6), .string (txB 7), .string (txB 8)]) (.int .i64 0)).run Tryz.prog w = .ok (.string (txB 0)) w := by kernel_rfl
theorem idx1 (w : World) : (Instr.index 106 (.agg #[.string (txB 0), .string (txB 1), .string (txB 2), .string (txB 3), .string (txB 4), .string (txB 5), .string (txB 6), .string (txB 7), .string (txB 8)]) (.int .i64 1)).run Tryz.prog w = .ok (.string (txB 1)) w := by kernel_rfl
theorem idx2 (w : World) : (Instr.index 106 (.agg #[.string (txB 0), .string (txB 1), .string (txB 2), .string (txB 3), .string (txB 4), .string (txB 5), .string (txB 6), .string (txB 7), .string (txB 8)]) (.int .i64 2)).run Tryz.prog w = .ok (.string (txB 2)) w := by kernel_rfl
theorem idx3 (w : World) : (Instr.index 106 (.agg #[.string (txB 0), .string (txB 1), .string (txB 2), .string (txB 3), .string (txB 4), .string (txB 5), .string (txB 6), .string (txB 7), .string (txB 8)]) (.int .i64 3)).run Tryz.prog w = .ok (.string (txB 3)) w := by kernel_rfl
theorem idx4 (w : World) : (Instr.index 106 (.agg #[.string (txB 0), .string (txB 1), .string (txB 2), .string (txB 3), .string (txB 4), .string (txB 5), .string (txB 6), .string (txB 7), .string (txB 8)]) (.int .i64 4)).run Tryz.prog w = .ok (.string (txB 4)) w := by kernel_rfl
theorem idx5 (w : World) : (Instr.index 106 (.agg #[.string (txB 0), .string (txB 1), .string (txB 2), .string (txB 3), .string (txB 4), .string (txB 5), .string (txB 6), .string (txB 7), .string (txB 8)]) (.int .i64 5)).run Tryz.prog w = .ok (.string (txB 5)) w := by kernel_rfl
theorem idx6 (w : World) : (Instr.index 106 (.agg #[.string (txB 0), .string (txB 1), .string (txB 2), .string (txB 3), .string (txB 4), .string (txB 5), .string (txB 6), .string (txB 7), .string (txB 8)]) (.int .i64 6)).run Tryz.prog w = .ok (.string (txB 6)) w := by kernel_rfl
theorem idx7 (w : World) : (Instr.index 106 (.agg #[.string (txB 0), .string (txB 1), .string (txB 2), .string (txB 3), .string (txB 4), .string (txB 5), .string (txB 6), .string (txB 7), .string (txB 8)]) (.int .i64 7)).run Tryz.prog w = .ok (.string (txB 7)) w := by kernel_rfl
theorem idx8 (w : World) : (Instr.index 106 (.agg #[.string (txB 0), .string (txB 1), .string (txB 2), .string (txB 3), .string (txB 4), .string (txB 5), .string (txB 6), .string (txB 7), .string (txB 8)]) (.int .i64 8)).run Tryz.prog w = .ok (.string (txB 8)) w := by kernel_rfl

set_option maxHeartbeats 4000000 in
theorem parse_any (s : ByteArray) (w : World) (h : Txs w) :
    Calls Tryz.prog 80 #[.string s] w fun e w' => e = .returned (.tuple #[.int .i64 (parN s.data.toList), .bool (parB s.data.toList)]) ∧ w = w' := by
  have c0 := h 0 (by decide)
  have c1 := h 1 (by decide)
  have c2 := h 2 (by decide)
  have c3 := h 3 (by decide)
  have c4 := h 4 (by decide)
  have c5 := h 5 (by decide)
  have c6 := h 6 (by decide)
  have c7 := h 7 (by decide)
  have c8 := h 8 (by decide)
  have i0 := idx0
  have i1 := idx1
  have i2 := idx2
  have i3 := idx3
  have i4 := idx4
  have i5 := idx5
  have i6 := idx6
  have i7 := idx7
  have i8 := idx8
  clear h
  go_enter Tryz.func80, Tryz.ntmps80
  go_wp2_with fail
  clear c0 c1 c2 c3 c4 c5 c6 c7 c8
  go_loopw [7] (fun i wr => ∃ k : Nat, k ≤ 9 ∧ i = .int .i64 k ∧ Hid (∀ j, j < k → txs.getD j [] ≠ s.data.toList) ∧ Hid (w = wr)) (fun i _ => 9 - (intOf i).toNat)
  case atStart => exact ⟨0, by omega, rfl, Lib.hid (fun j hj => by omega), Lib.hid rfl⟩
  case round =>
    obtain ⟨k, hk, rfl, HN, HW⟩ := hrel
    rcases nine k hk with rfl | rfl | rfl | rfl | rfl | rfl | rfl | rfl | rfl | rfl
    all_goals clear hk
    · by_cases he : txs.getD 0 [] = s.data.toList
      · have HH := Lib.hid (par_hit _ 0 (by decide) he)
        have hq : (ByteArray.toList (txB 0) == ByteArray.toList s) = true := by
          rw [beq_iff_eq, ByteArray.toList_eq, ByteArray.toList_eq]; exact he
        clear he HN
        go_wp2
        go_ret2
        exact ⟨by rw [HH.out.1, HH.out.2]; rfl, HW.out⟩
      · have HN2 : Hid (∀ j, j < 0 + 1 → txs.getD j [] ≠ s.data.toList) := Lib.hid (fun j hj => by
          by_cases hjk : j = 0
          · subst hjk; exact he
          · exact HN.out j (by omega))
        have hq : (ByteArray.toList (txB 0) == ByteArray.toList s) = false := by
          rw [beq_eq_false_iff_ne, ByteArray.toList_eq, ByteArray.toList_eq]; exact he
        clear he HN
        go_wp2
        go_roundw
        case rel => exact ⟨0 + 1, by omega, by go_num, HN2, HW⟩
        case measure => simp [intOf]
    · by_cases he : txs.getD 1 [] = s.data.toList
      · have HH := Lib.hid (par_hit _ 1 (by decide) he)
        have hq : (ByteArray.toList (txB 1) == ByteArray.toList s) = true := by
          rw [beq_iff_eq, ByteArray.toList_eq, ByteArray.toList_eq]; exact he
        clear he HN
        go_wp2
        go_ret2
        exact ⟨by rw [HH.out.1, HH.out.2]; rfl, HW.out⟩
      · have HN2 : Hid (∀ j, j < 1 + 1 → txs.getD j [] ≠ s.data.toList) := Lib.hid (fun j hj => by
          by_cases hjk : j = 1
          · subst hjk; exact he
          · exact HN.out j (by omega))
        have hq : (ByteArray.toList (txB 1) == ByteArray.toList s) = false := by
          rw [beq_eq_false_iff_ne, ByteArray.toList_eq, ByteArray.toList_eq]; exact he
        clear he HN
        go_wp2
        go_roundw
        case rel => exact ⟨1 + 1, by omega, by go_num, HN2, HW⟩
        case measure => simp [intOf]
    · by_cases he : txs.getD 2 [] = s.data.toList
      · have HH := Lib.hid (par_hit _ 2 (by decide) he)
        have hq : (ByteArray.toList (txB 2) == ByteArray.toList s) = true := by
          rw [beq_iff_eq, ByteArray.toList_eq, ByteArray.toList_eq]; exact he
        clear he HN
        go_wp2
        go_ret2
        exact ⟨by rw [HH.out.1, HH.out.2]; rfl, HW.out⟩
      · have HN2 : Hid (∀ j, j < 2 + 1 → txs.getD j [] ≠ s.data.toList) := Lib.hid (fun j hj => by
          by_cases hjk : j = 2
          · subst hjk; exact he
          · exact HN.out j (by omega))
        have hq : (ByteArray.toList (txB 2) == ByteArray.toList s) = false := by
          rw [beq_eq_false_iff_ne, ByteArray.toList_eq, ByteArray.toList_eq]; exact he
        clear he HN
        go_wp2
        go_roundw
        case rel => exact ⟨2 + 1, by omega, by go_num, HN2, HW⟩
        case measure => simp [intOf]
    · by_cases he : txs.getD 3 [] = s.data.toList
      · have HH := Lib.hid (par_hit _ 3 (by decide) he)
        have hq : (ByteArray.toList (txB 3) == ByteArray.toList s) = true := by
          rw [beq_iff_eq, ByteArray.toList_eq, ByteArray.toList_eq]; exact he
        clear he HN
        go_wp2
        go_ret2
        exact ⟨by rw [HH.out.1, HH.out.2]; rfl, HW.out⟩
      · have HN2 : Hid (∀ j, j < 3 + 1 → txs.getD j [] ≠ s.data.toList) := Lib.hid (fun j hj => by
          by_cases hjk : j = 3
          · subst hjk; exact he
          · exact HN.out j (by omega))
        have hq : (ByteArray.toList (txB 3) == ByteArray.toList s) = false := by
          rw [beq_eq_false_iff_ne, ByteArray.toList_eq, ByteArray.toList_eq]; exact he
        clear he HN
        go_wp2
        go_roundw
        case rel => exact ⟨3 + 1, by omega, by go_num, HN2, HW⟩
        case measure => simp [intOf]
    · by_cases he : txs.getD 4 [] = s.data.toList
      · have HH := Lib.hid (par_hit _ 4 (by decide) he)
        have hq : (ByteArray.toList (txB 4) == ByteArray.toList s) = true := by
          rw [beq_iff_eq, ByteArray.toList_eq, ByteArray.toList_eq]; exact he
        clear he HN
        go_wp2
        go_ret2
        exact ⟨by rw [HH.out.1, HH.out.2]; rfl, HW.out⟩
      · have HN2 : Hid (∀ j, j < 4 + 1 → txs.getD j [] ≠ s.data.toList) := Lib.hid (fun j hj => by
          by_cases hjk : j = 4
          · subst hjk; exact he
          · exact HN.out j (by omega))
        have hq : (ByteArray.toList (txB 4) == ByteArray.toList s) = false := by
          rw [beq_eq_false_iff_ne, ByteArray.toList_eq, ByteArray.toList_eq]; exact he
        clear he HN
        go_wp2
        go_roundw
        case rel => exact ⟨4 + 1, by omega, by go_num, HN2, HW⟩
        case measure => simp [intOf]
    · by_cases he : txs.getD 5 [] = s.data.toList
      · have HH := Lib.hid (par_hit _ 5 (by decide) he)
        have hq : (ByteArray.toList (txB 5) == ByteArray.toList s) = true := by
          rw [beq_iff_eq, ByteArray.toList_eq, ByteArray.toList_eq]; exact he
        clear he HN
        go_wp2
        go_ret2
        exact ⟨by rw [HH.out.1, HH.out.2]; rfl, HW.out⟩
      · have HN2 : Hid (∀ j, j < 5 + 1 → txs.getD j [] ≠ s.data.toList) := Lib.hid (fun j hj => by
          by_cases hjk : j = 5
          · subst hjk; exact he
          · exact HN.out j (by omega))
        have hq : (ByteArray.toList (txB 5) == ByteArray.toList s) = false := by
          rw [beq_eq_false_iff_ne, ByteArray.toList_eq, ByteArray.toList_eq]; exact he
        clear he HN
        go_wp2
        go_roundw
        case rel => exact ⟨5 + 1, by omega, by go_num, HN2, HW⟩
        case measure => simp [intOf]
    · by_cases he : txs.getD 6 [] = s.data.toList
      · have HH := Lib.hid (par_hit _ 6 (by decide) he)
        have hq : (ByteArray.toList (txB 6) == ByteArray.toList s) = true := by
          rw [beq_iff_eq, ByteArray.toList_eq, ByteArray.toList_eq]; exact he
        clear he HN
        go_wp2
        go_ret2
        exact ⟨by rw [HH.out.1, HH.out.2]; rfl, HW.out⟩
      · have HN2 : Hid (∀ j, j < 6 + 1 → txs.getD j [] ≠ s.data.toList) := Lib.hid (fun j hj => by
          by_cases hjk : j = 6
          · subst hjk; exact he
          · exact HN.out j (by omega))
        have hq : (ByteArray.toList (txB 6) == ByteArray.toList s) = false := by
          rw [beq_eq_false_iff_ne, ByteArray.toList_eq, ByteArray.toList_eq]; exact he
        clear he HN
        go_wp2
        go_roundw
        case rel => exact ⟨6 + 1, by omega, by go_num, HN2, HW⟩
        case measure => simp [intOf]
    · by_cases he : txs.getD 7 [] = s.data.toList
      · have HH := Lib.hid (par_hit _ 7 (by decide) he)
        have hq : (ByteArray.toList (txB 7) == ByteArray.toList s) = true := by
          rw [beq_iff_eq, ByteArray.toList_eq, ByteArray.toList_eq]; exact he
        clear he HN
        go_wp2
        go_ret2
        exact ⟨by rw [HH.out.1, HH.out.2]; rfl, HW.out⟩
      · have HN2 : Hid (∀ j, j < 7 + 1 → txs.getD j [] ≠ s.data.toList) := Lib.hid (fun j hj => by
          by_cases hjk : j = 7
          · subst hjk; exact he
          · exact HN.out j (by omega))
        have hq : (ByteArray.toList (txB 7) == ByteArray.toList s) = false := by
          rw [beq_eq_false_iff_ne, ByteArray.toList_eq, ByteArray.toList_eq]; exact he
        clear he HN
        go_wp2
        go_roundw
        case rel => exact ⟨7 + 1, by omega, by go_num, HN2, HW⟩
        case measure => simp [intOf]
    · by_cases he : txs.getD 8 [] = s.data.toList
      · have HH := Lib.hid (par_hit _ 8 (by decide) he)
        have hq : (ByteArray.toList (txB 8) == ByteArray.toList s) = true := by
          rw [beq_iff_eq, ByteArray.toList_eq, ByteArray.toList_eq]; exact he
        clear he HN
        go_wp2
        go_ret2
        exact ⟨by rw [HH.out.1, HH.out.2]; rfl, HW.out⟩
      · have HN2 : Hid (∀ j, j < 8 + 1 → txs.getD j [] ≠ s.data.toList) := Lib.hid (fun j hj => by
          by_cases hjk : j = 8
          · subst hjk; exact he
          · exact HN.out j (by omega))
        have hq : (ByteArray.toList (txB 8) == ByteArray.toList s) = false := by
          rw [beq_eq_false_iff_ne, ByteArray.toList_eq, ByteArray.toList_eq]; exact he
        clear he HN
        go_wp2
        go_roundw
        case rel => exact ⟨8 + 1, by omega, by go_num, HN2, HW⟩
        case measure => simp [intOf]
    · have HM := Lib.hid (par_miss _ HN.out)
      clear HN
      go_wp2
      go_ret2
      exact ⟨by rw [HM.out.1, HM.out.2]; rfl, HW.out⟩

set_option maxHeartbeats 4000000 in
theorem rparse_any (s : ByteArray) (w : World) :
    Calls Tryz.prog 62 #[.string s] w fun e w' => e = .returned (.tuple #[.int .i64 (parN s.data.toList), .bool (parB s.data.toList)]) ∧ Below w.heap.size w w' := by
  go_enter Tryz.func62, Tryz.ntmps62
  go_wp2_with fail
  go_loopw [4] (fun i wr => ∃ k : Nat, k ≤ 9 ∧ i = .int .i64 k ∧ Hid (∀ j, j < k → txs.getD j [] ≠ s.data.toList) ∧ Hid (Below w.heap.size w wr)) (fun i _ => 9 - (intOf i).toNat)
  case atStart => exact ⟨0, by omega, rfl, Lib.hid (fun j hj => by omega), Lib.hid (Below.refl _ _)⟩
  case round =>
    obtain ⟨k, hk, rfl, HN, HB⟩ := hrel
    rcases nine k hk with rfl | rfl | rfl | rfl | rfl | rfl | rfl | rfl | rfl | rfl
    all_goals clear hk
    · by_cases he : txs.getD 0 [] = s.data.toList
      · have HH := Lib.hid (par_hit _ 0 (by decide) he)
        have hq : (ByteArray.toList (txB 0) == ByteArray.toList s) = true := by
          rw [beq_iff_eq, ByteArray.toList_eq, ByteArray.toList_eq]; exact he
        clear he HN
        go_wp2_with fail
        refine (rtext_any 0 (by omega) (by omega) wr).mono ?_
        rintro e w1 ⟨rfl, hb1⟩
        have HB1 := Lib.hid (HB.out.trans (hb1.mono HB.out.size))
        clear hb1 HB
        rw [show textV 0 = txB 0 from rfl]
        go_wp2_with fail
        go_ret2
        exact ⟨by rw [HH.out.1, HH.out.2]; rfl, HB1.out⟩
      · have HN2 : Hid (∀ j, j < 0 + 1 → txs.getD j [] ≠ s.data.toList) := Lib.hid (fun j hj => by
          by_cases hjk : j = 0
          · subst hjk; exact he
          · exact HN.out j (by omega))
        have hq : (ByteArray.toList (txB 0) == ByteArray.toList s) = false := by
          rw [beq_eq_false_iff_ne, ByteArray.toList_eq, ByteArray.toList_eq]; exact he
        clear he HN
        go_wp2_with fail
        refine (rtext_any 0 (by omega) (by omega) wr).mono ?_
        rintro e w1 ⟨rfl, hb1⟩
        have HB1 := Lib.hid (HB.out.trans (hb1.mono HB.out.size))
        clear hb1 HB
        rw [show textV 0 = txB 0 from rfl]
        go_wp2_with fail
        go_roundw
        case rel => exact ⟨0 + 1, by omega, by go_num, HN2, HB1⟩
        case measure => simp [intOf]
    · by_cases he : txs.getD 1 [] = s.data.toList
      · have HH := Lib.hid (par_hit _ 1 (by decide) he)
        have hq : (ByteArray.toList (txB 1) == ByteArray.toList s) = true := by
          rw [beq_iff_eq, ByteArray.toList_eq, ByteArray.toList_eq]; exact he
        clear he HN
        go_wp2_with fail
        refine (rtext_any 1 (by omega) (by omega) wr).mono ?_
        rintro e w1 ⟨rfl, hb1⟩
        have HB1 := Lib.hid (HB.out.trans (hb1.mono HB.out.size))
        clear hb1 HB
        rw [show textV 1 = txB 1 from rfl]
        go_wp2_with fail
        go_ret2
        exact ⟨by rw [HH.out.1, HH.out.2]; rfl, HB1.out⟩
      · have HN2 : Hid (∀ j, j < 1 + 1 → txs.getD j [] ≠ s.data.toList) := Lib.hid (fun j hj => by
          by_cases hjk : j = 1
          · subst hjk; exact he
          · exact HN.out j (by omega))
        have hq : (ByteArray.toList (txB 1) == ByteArray.toList s) = false := by
          rw [beq_eq_false_iff_ne, ByteArray.toList_eq, ByteArray.toList_eq]; exact he
        clear he HN
        go_wp2_with fail
        refine (rtext_any 1 (by omega) (by omega) wr).mono ?_
        rintro e w1 ⟨rfl, hb1⟩
        have HB1 := Lib.hid (HB.out.trans (hb1.mono HB.out.size))
        clear hb1 HB
        rw [show textV 1 = txB 1 from rfl]
        go_wp2_with fail
        go_roundw
        case rel => exact ⟨1 + 1, by omega, by go_num, HN2, HB1⟩
        case measure => simp [intOf]
    · by_cases he : txs.getD 2 [] = s.data.toList
      · have HH := Lib.hid (par_hit _ 2 (by decide) he)
        have hq : (ByteArray.toList (txB 2) == ByteArray.toList s) = true := by
          rw [beq_iff_eq, ByteArray.toList_eq, ByteArray.toList_eq]; exact he
        clear he HN
        go_wp2_with fail
        refine (rtext_any 2 (by omega) (by omega) wr).mono ?_
        rintro e w1 ⟨rfl, hb1⟩
        have HB1 := Lib.hid (HB.out.trans (hb1.mono HB.out.size))
        clear hb1 HB
        rw [show textV 2 = txB 2 from rfl]
        go_wp2_with fail
        go_ret2
        exact ⟨by rw [HH.out.1, HH.out.2]; rfl, HB1.out⟩
      · have HN2 : Hid (∀ j, j < 2 + 1 → txs.getD j [] ≠ s.data.toList) := Lib.hid (fun j hj => by
          by_cases hjk : j = 2
          · subst hjk; exact he
          · exact HN.out j (by omega))
        have hq : (ByteArray.toList (txB 2) == ByteArray.toList s) = false := by
          rw [beq_eq_false_iff_ne, ByteArray.toList_eq, ByteArray.toList_eq]; exact he
        clear he HN
        go_wp2_with fail
        refine (rtext_any 2 (by omega) (by omega) wr).mono ?_
        rintro e w1 ⟨rfl, hb1⟩
        have HB1 := Lib.hid (HB.out.trans (hb1.mono HB.out.size))
        clear hb1 HB
        rw [show textV 2 = txB 2 from rfl]
        go_wp2_with fail
        go_roundw
        case rel => exact ⟨2 + 1, by omega, by go_num, HN2, HB1⟩
        case measure => simp [intOf]
    · by_cases he : txs.getD 3 [] = s.data.toList
      · have HH := Lib.hid (par_hit _ 3 (by decide) he)
        have hq : (ByteArray.toList (txB 3) == ByteArray.toList s) = true := by
          rw [beq_iff_eq, ByteArray.toList_eq, ByteArray.toList_eq]; exact he
        clear he HN
        go_wp2_with fail
        refine (rtext_any 3 (by omega) (by omega) wr).mono ?_
        rintro e w1 ⟨rfl, hb1⟩
        have HB1 := Lib.hid (HB.out.trans (hb1.mono HB.out.size))
        clear hb1 HB
        rw [show textV 3 = txB 3 from rfl]
        go_wp2_with fail
        go_ret2
        exact ⟨by rw [HH.out.1, HH.out.2]; rfl, HB1.out⟩
      · have HN2 : Hid (∀ j, j < 3 + 1 → txs.getD j [] ≠ s.data.toList) := Lib.hid (fun j hj => by
          by_cases hjk : j = 3
          · subst hjk; exact he
          · exact HN.out j (by omega))
        have hq : (ByteArray.toList (txB 3) == ByteArray.toList s) = false := by
          rw [beq_eq_false_iff_ne, ByteArray.toList_eq, ByteArray.toList_eq]; exact he
        clear he HN
        go_wp2_with fail
        refine (rtext_any 3 (by omega) (by omega) wr).mono ?_
        rintro e w1 ⟨rfl, hb1⟩
        have HB1 := Lib.hid (HB.out.trans (hb1.mono HB.out.size))
        clear hb1 HB
        rw [show textV 3 = txB 3 from rfl]
        go_wp2_with fail
        go_roundw
        case rel => exact ⟨3 + 1, by omega, by go_num, HN2, HB1⟩
        case measure => simp [intOf]
    · by_cases he : txs.getD 4 [] = s.data.toList
      · have HH := Lib.hid (par_hit _ 4 (by decide) he)
        have hq : (ByteArray.toList (txB 4) == ByteArray.toList s) = true := by
          rw [beq_iff_eq, ByteArray.toList_eq, ByteArray.toList_eq]; exact he
        clear he HN
        go_wp2_with fail
        refine (rtext_any 4 (by omega) (by omega) wr).mono ?_
        rintro e w1 ⟨rfl, hb1⟩
        have HB1 := Lib.hid (HB.out.trans (hb1.mono HB.out.size))
        clear hb1 HB
        rw [show textV 4 = txB 4 from rfl]
        go_wp2_with fail
        go_ret2
        exact ⟨by rw [HH.out.1, HH.out.2]; rfl, HB1.out⟩
      · have HN2 : Hid (∀ j, j < 4 + 1 → txs.getD j [] ≠ s.data.toList) := Lib.hid (fun j hj => by
          by_cases hjk : j = 4
          · subst hjk; exact he
          · exact HN.out j (by omega))
        have hq : (ByteArray.toList (txB 4) == ByteArray.toList s) = false := by
          rw [beq_eq_false_iff_ne, ByteArray.toList_eq, ByteArray.toList_eq]; exact he
        clear he HN
        go_wp2_with fail
        refine (rtext_any 4 (by omega) (by omega) wr).mono ?_
        rintro e w1 ⟨rfl, hb1⟩
        have HB1 := Lib.hid (HB.out.trans (hb1.mono HB.out.size))
        clear hb1 HB
        rw [show textV 4 = txB 4 from rfl]
        go_wp2_with fail
        go_roundw
        case rel => exact ⟨4 + 1, by omega, by go_num, HN2, HB1⟩
        case measure => simp [intOf]
    · by_cases he : txs.getD 5 [] = s.data.toList
      · have HH := Lib.hid (par_hit _ 5 (by decide) he)
        have hq : (ByteArray.toList (txB 5) == ByteArray.toList s) = true := by
          rw [beq_iff_eq, ByteArray.toList_eq, ByteArray.toList_eq]; exact he
        clear he HN
        go_wp2_with fail
        refine (rtext_any 5 (by omega) (by omega) wr).mono ?_
        rintro e w1 ⟨rfl, hb1⟩
        have HB1 := Lib.hid (HB.out.trans (hb1.mono HB.out.size))
        clear hb1 HB
        rw [show textV 5 = txB 5 from rfl]
        go_wp2_with fail
        go_ret2
        exact ⟨by rw [HH.out.1, HH.out.2]; rfl, HB1.out⟩
      · have HN2 : Hid (∀ j, j < 5 + 1 → txs.getD j [] ≠ s.data.toList) := Lib.hid (fun j hj => by
          by_cases hjk : j = 5
          · subst hjk; exact he
          · exact HN.out j (by omega))
        have hq : (ByteArray.toList (txB 5) == ByteArray.toList s) = false := by
          rw [beq_eq_false_iff_ne, ByteArray.toList_eq, ByteArray.toList_eq]; exact he
        clear he HN
        go_wp2_with fail
        refine (rtext_any 5 (by omega) (by omega) wr).mono ?_
        rintro e w1 ⟨rfl, hb1⟩
        have HB1 := Lib.hid (HB.out.trans (hb1.mono HB.out.size))
        clear hb1 HB
        rw [show textV 5 = txB 5 from rfl]
        go_wp2_with fail
        go_roundw
        case rel => exact ⟨5 + 1, by omega, by go_num, HN2, HB1⟩
        case measure => simp [intOf]
    · by_cases he : txs.getD 6 [] = s.data.toList
      · have HH := Lib.hid (par_hit _ 6 (by decide) he)
        have hq : (ByteArray.toList (txB 6) == ByteArray.toList s) = true := by
          rw [beq_iff_eq, ByteArray.toList_eq, ByteArray.toList_eq]; exact he
        clear he HN
        go_wp2_with fail
        refine (rtext_any 6 (by omega) (by omega) wr).mono ?_
        rintro e w1 ⟨rfl, hb1⟩
        have HB1 := Lib.hid (HB.out.trans (hb1.mono HB.out.size))
        clear hb1 HB
        rw [show textV 6 = txB 6 from rfl]
        go_wp2_with fail
        go_ret2
        exact ⟨by rw [HH.out.1, HH.out.2]; rfl, HB1.out⟩
      · have HN2 : Hid (∀ j, j < 6 + 1 → txs.getD j [] ≠ s.data.toList) := Lib.hid (fun j hj => by
          by_cases hjk : j = 6
          · subst hjk; exact he
          · exact HN.out j (by omega))
        have hq : (ByteArray.toList (txB 6) == ByteArray.toList s) = false := by
          rw [beq_eq_false_iff_ne, ByteArray.toList_eq, ByteArray.toList_eq]; exact he
        clear he HN
        go_wp2_with fail
        refine (rtext_any 6 (by omega) (by omega) wr).mono ?_
        rintro e w1 ⟨rfl, hb1⟩
        have HB1 := Lib.hid (HB.out.trans (hb1.mono HB.out.size))
        clear hb1 HB
        rw [show textV 6 = txB 6 from rfl]
        go_wp2_with fail
        go_roundw
        case rel => exact ⟨6 + 1, by omega, by go_num, HN2, HB1⟩
        case measure => simp [intOf]
    · by_cases he : txs.getD 7 [] = s.data.toList
      · have HH := Lib.hid (par_hit _ 7 (by decide) he)
        have hq : (ByteArray.toList (txB 7) == ByteArray.toList s) = true := by
          rw [beq_iff_eq, ByteArray.toList_eq, ByteArray.toList_eq]; exact he
        clear he HN
        go_wp2_with fail
        refine (rtext_any 7 (by omega) (by omega) wr).mono ?_
        rintro e w1 ⟨rfl, hb1⟩
        have HB1 := Lib.hid (HB.out.trans (hb1.mono HB.out.size))
        clear hb1 HB
        rw [show textV 7 = txB 7 from rfl]
        go_wp2_with fail
        go_ret2
        exact ⟨by rw [HH.out.1, HH.out.2]; rfl, HB1.out⟩
      · have HN2 : Hid (∀ j, j < 7 + 1 → txs.getD j [] ≠ s.data.toList) := Lib.hid (fun j hj => by
          by_cases hjk : j = 7
          · subst hjk; exact he
          · exact HN.out j (by omega))
        have hq : (ByteArray.toList (txB 7) == ByteArray.toList s) = false := by
          rw [beq_eq_false_iff_ne, ByteArray.toList_eq, ByteArray.toList_eq]; exact he
        clear he HN
        go_wp2_with fail
        refine (rtext_any 7 (by omega) (by omega) wr).mono ?_
        rintro e w1 ⟨rfl, hb1⟩
        have HB1 := Lib.hid (HB.out.trans (hb1.mono HB.out.size))
        clear hb1 HB
        rw [show textV 7 = txB 7 from rfl]
        go_wp2_with fail
        go_roundw
        case rel => exact ⟨7 + 1, by omega, by go_num, HN2, HB1⟩
        case measure => simp [intOf]
    · by_cases he : txs.getD 8 [] = s.data.toList
      · have HH := Lib.hid (par_hit _ 8 (by decide) he)
        have hq : (ByteArray.toList (txB 8) == ByteArray.toList s) = true := by
          rw [beq_iff_eq, ByteArray.toList_eq, ByteArray.toList_eq]; exact he
        clear he HN
        go_wp2_with fail
        refine (rtext_any 8 (by omega) (by omega) wr).mono ?_
        rintro e w1 ⟨rfl, hb1⟩
        have HB1 := Lib.hid (HB.out.trans (hb1.mono HB.out.size))
        clear hb1 HB
        rw [show textV 8 = txB 8 from rfl]
        go_wp2_with fail
        go_ret2
        exact ⟨by rw [HH.out.1, HH.out.2]; rfl, HB1.out⟩
      · have HN2 : Hid (∀ j, j < 8 + 1 → txs.getD j [] ≠ s.data.toList) := Lib.hid (fun j hj => by
          by_cases hjk : j = 8
          · subst hjk; exact he
          · exact HN.out j (by omega))
        have hq : (ByteArray.toList (txB 8) == ByteArray.toList s) = false := by
          rw [beq_eq_false_iff_ne, ByteArray.toList_eq, ByteArray.toList_eq]; exact he
        clear he HN
        go_wp2_with fail
        refine (rtext_any 8 (by omega) (by omega) wr).mono ?_
        rintro e w1 ⟨rfl, hb1⟩
        have HB1 := Lib.hid (HB.out.trans (hb1.mono HB.out.size))
        clear hb1 HB
        rw [show textV 8 = txB 8 from rfl]
        go_wp2_with fail
        go_roundw
        case rel => exact ⟨8 + 1, by omega, by go_num, HN2, HB1⟩
        case measure => simp [intOf]
    · have HM := Lib.hid (par_miss _ HN.out)
      clear HN
      go_wp2_with fail
      go_ret2
      exact ⟨by rw [HM.out.1, HM.out.2]; rfl, HB.out⟩
end Go.Proofs.YtnplhpbbdgnmiaaGreatDoor.Si
