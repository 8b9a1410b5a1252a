/-
  WALK: instructions as lines, as the document says.
-/
import Derived.Test.YtnplhpbbdgnmiaaGreatDoorMi
namespace Go.Proofs.YtnplhpbbdgnmiaaGreatDoor.Ln
open Go.RowKit
open Mem Go.Lib

theorem parV_form (s : ByteArray) : ∃ o a b c n, (parV s).1 = #[.int .i64 o, .int .i64 a, .int .i64 b, .int .i64 c, .int .i64 n] := by
  rw [parV_tg]
  cases tgO (wordsL s) with
  | none => exact ⟨0, 0, 0, 0, 0, rfl⟩
  | some p =>
    obtain ⟨o, q⟩ := p
    simp only
    split
    · exact ⟨0, 0, 0, 0, 0, rfl⟩
    · exact ⟨_, _, _, _, _, rfl⟩

set_option maxRecDepth 100000 in
set_option maxHeartbeats 4000000 in
theorem instrs_law (o a b c n : Int) (s : ByteArray) (w : World) (ho : I64 o) (ha : I64 a) (hb : I64 b) (hc : I64 c) (hn : I64 n) (hw : Wl w) :
    Calls Tryz.prog 4 #[.agg #[.int .i64 o, .int .i64 a, .int .i64 b, .int .i64 c, .int .i64 n], .string s] w (TrueAns w) := by
  have HW := Lib.hid hw
  have HK := Lib.hid known_any
  have B0 := Lib.hid ((Below.refl w.heap.size w).alloc (Nat.le_refl _) (.cells #[.int .i64 o, .int .i64 a, .int .i64 b, .int .i64 c, .int .i64 n] 34))
  by_cases hs : 300 < s.size
  · have hsI : (300 : Int) < (s.size : Int) := by omega
    clear hw ho ha hb hc hn
    go_enter Tryz.func4, Tryz.ntmps4
    go_wp2_with fail
    refine (HK.out _ (HW.out.below B0.out)).mono ?_
    rintro e w1 ⟨rfl, hb⟩
    have HB := Lib.hid (B0.out.trans (hb.mono B0.out.size))
    clear hb
    go_wp2_with fail
    go_ret
    exact ⟨rfl, HB.out⟩
  · have hsI : ¬ (300 : Int) < (s.size : Int) := by omega
    have HT := Lib.hid (fun W h => text_any o a b c n ha hb hc hn W (Wl.tb h) (Wl.bt h) (Wl.st h))
    have HR := Lib.hid (fun W => rtext_any o a b c n ho ha hb hc hn W)
    have HP := Lib.hid (fun W h => parse_any s W (by omega) (Wl.er h) (Wl.tb h) (Wl.bt h) (Wl.st h))
    have HQ := Lib.hid (fun W => rparse_any s W (by omega))
    obtain ⟨po, pa, pb, pc, pn, hpv⟩ := parV_form s
    unfold XAns at HT HR
    unfold ParAns at HP HQ
    rw [hpv] at HP HQ
    generalize (txtV o a b c n).1 = t at HT HR
    generalize (txtV o a b c n).2 = u at HT HR
    generalize (parV s).2 = v at HP HQ
    have X0 := Lib.hid (Blk.new w 34 #[.int .i64 o, .int .i64 a, .int .i64 b, .int .i64 c, .int .i64 n])
    clear hw ho ha hb hc hn hpv hs
    go_enter Tryz.func4, Tryz.ntmps4
    go_wp2_with fail
    refine (HT.out _ (HW.out.below B0.out)).mono ?_
    rintro e w1 ⟨rfl, hb⟩
    have X1 := Lib.hid (X0.out.below hb (by simp))
    have B1 := Lib.hid (B0.out.trans (hb.mono B0.out.size))
    clear hb X0 B0
    have k0 : w1.cell? ⟨w.heap.size, 0, none⟩ = some (.int .i64 o) := by rw [X1.out.cell]; rfl
    have k1 : w1.cell? ⟨w.heap.size, 1, none⟩ = some (.int .i64 a) := by rw [X1.out.cell]; rfl
    have k2 : w1.cell? ⟨w.heap.size, 2, none⟩ = some (.int .i64 b) := by rw [X1.out.cell]; rfl
    have k3 : w1.cell? ⟨w.heap.size, 3, none⟩ = some (.int .i64 c) := by rw [X1.out.cell]; rfl
    have k4 : w1.cell? ⟨w.heap.size, 4, none⟩ = some (.int .i64 n) := by rw [X1.out.cell]; rfl
    have hlk : w.heap.size < w1.heap.size := X1.out.lt
    go_wp2_with fail
    refine (HR.out _).mono ?_
    rintro e w2 ⟨rfl, hb⟩
    have B2 := Lib.hid (B1.out.trans (hb.mono B1.out.size))
    clear hb X1 B1 k0 k1 k2 k3 k4 hlk
    go_wp2_with fail
    refine (HP.out _ (HW.out.below B2.out)).mono ?_
    rintro e w3 ⟨rfl, hb⟩
    have B3 := Lib.hid (B2.out.trans (hb.mono B2.out.size))
    clear hb B2
    have X3 := Lib.hid (Blk.new w3 34 #[.int .i64 po, .int .i64 pa, .int .i64 pb, .int .i64 pc, .int .i64 pn])
    have B3' := Lib.hid (B3.out.alloc B3.out.size (.cells #[.int .i64 po, .int .i64 pa, .int .i64 pb, .int .i64 pc, .int .i64 pn] 34))
    go_wp2_with fail
    refine (HQ.out _).mono ?_
    rintro e w4 ⟨rfl, hb⟩
    have X4 := Lib.hid (X3.out.below hb (by simp))
    have B4 := Lib.hid (B3'.out.trans (hb.mono B3'.out.size))
    clear hb X3 B3 B3'
    obtain ⟨w5, hw5⟩ : ∃ W, w4.alloc (.cells #[.int .i64 po, .int .i64 pa, .int .i64 pb, .int .i64 pc, .int .i64 pn] 34) = W := ⟨_, rfl⟩
    have X5 := Lib.hid (show Blk w5 w3.heap.size 34 #[.int .i64 po, .int .i64 pa, .int .i64 pb, .int .i64 pc, .int .i64 pn] by rw [← hw5]; exact X4.out.alloc _)
    have Y5 := Lib.hid (show Blk w5 w4.heap.size 34 #[.int .i64 po, .int .i64 pa, .int .i64 pb, .int .i64 pc, .int .i64 pn] by rw [← hw5]; exact Blk.new _ _ _)
    have B5 := Lib.hid (show Below w.heap.size w w5 by rw [← hw5]; exact B4.out.alloc B4.out.size _)
    have k0 : w5.cell? ⟨w3.heap.size, 0, none⟩ = some (.int .i64 po) := by rw [X5.out.cell]; rfl
    have k1 : w5.cell? ⟨w3.heap.size, 1, none⟩ = some (.int .i64 pa) := by rw [X5.out.cell]; rfl
    have k2 : w5.cell? ⟨w3.heap.size, 2, none⟩ = some (.int .i64 pb) := by rw [X5.out.cell]; rfl
    have k3 : w5.cell? ⟨w3.heap.size, 3, none⟩ = some (.int .i64 pc) := by rw [X5.out.cell]; rfl
    have k4 : w5.cell? ⟨w3.heap.size, 4, none⟩ = some (.int .i64 pn) := by rw [X5.out.cell]; rfl
    have hlk : w3.heap.size < w5.heap.size := X5.out.lt
    have y0 : w5.cell? ⟨w4.heap.size, 0, none⟩ = some (.int .i64 po) := by rw [Y5.out.cell]; rfl
    have y1 : w5.cell? ⟨w4.heap.size, 1, none⟩ = some (.int .i64 pa) := by rw [Y5.out.cell]; rfl
    have y2 : w5.cell? ⟨w4.heap.size, 2, none⟩ = some (.int .i64 pb) := by rw [Y5.out.cell]; rfl
    have y3 : w5.cell? ⟨w4.heap.size, 3, none⟩ = some (.int .i64 pc) := by rw [Y5.out.cell]; rfl
    have y4 : w5.cell? ⟨w4.heap.size, 4, none⟩ = some (.int .i64 pn) := by rw [Y5.out.cell]; rfl
    have hly : w4.heap.size < w5.heap.size := Y5.out.lt
    have HK2 := Lib.hid (HK.out w5 (HW.out.below B5.out))
    clear X4 B4
    go_wp2_with fail
    refine HK2.out.mono ?_
    rintro e w6 ⟨rfl, hb⟩
    have B6 := Lib.hid (B5.out.trans (hb.mono B5.out.size))
    clear hb
    go_wp2_with fail
    go_ret
    exact ⟨rfl, B6.out⟩
end Go.Proofs.YtnplhpbbdgnmiaaGreatDoor.Ln
