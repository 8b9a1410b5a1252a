/-
  WALK of layer 8's laws: known; the document's own Get, whatever it is given.
-/
import Derived.Test.YtieacapdfeljfaaDoorIk
import Derived.Test.YtieacapdfeljfaaDoorIg
import Derived.Test.YtieacapdfeljfaaDoorHm
namespace Go.Proofs.YtieacapdfeljfaaDoor.By
open Go.ChangeShapes Go.WideShapes Go.ChangeAt Go.RowKit
open Mem

theorem rget_any (w : World) (A : Option Addr) (n c : Nat) (l : List UInt8) (p : Nat) (good : Bool) (hn : l.length = n) (hle : p ≤ n) (hl : n ≤ 1099511627776) (hv : SlV w w.heap.size (.slice A n c) (u8s l)) :
    Calls Tryd.prog 34 #[.agg #[.slice A n c, .int .i64 p, .bool (!good)]] w (RGot w A n c l p good) := by
  cases hf : fitsB l p good 8 with
  | false => exact rget_no w A n c l p good hn hle hl hf
  | true =>
    cases good with
    | false => simp [fitsB] at hf
    | true => exact rget_yes w A n c l p hn hl hf hv

theorem Txs.two {w : World} (h : Txs w) : 2 ≤ w.heap.size := by
  have := World.block_lt_of_cell? w _ (h.2 0 (by decide))
  exact this

theorem ch_set : chV 2 2 0 0 258 = 0 :=
  ch_ok (by decide) (fun k hk => by rcases quad k hk with rfl | rfl | rfl | rfl <;> (unfold inV; decide))
    (fun k hk => by rcases quad k hk with rfl | rfl | rfl | rfl <;> (unfold argV; decide))

theorem ch_nop : chV 1 0 1 0 0 = 2 :=
  ch_arg (by decide) (fun k hk => by rcases quad k hk with rfl | rfl | rfl | rfl <;> (unfold inV; decide)) 1 (by decide) (by unfold argV; decide)

theorem ins_set : insB 2 2 0 0 258 = [2, 2, 0, 0, 0, 0, 1, 2] := by decide +kernel

theorem got_set : fitsB [2, 2, 0, 0, 0, 0, 1, 2] 0 true 8 = true ∧ readP [2, 2, 0, 0, 0, 0, 1, 2] 0 true 8 = 8 ∧ rdO [2, 2, 0, 0, 0, 0, 1, 2] 0 = 2 ∧ rdA [2, 2, 0, 0, 0, 0, 1, 2] 0 = 2 ∧ rdB [2, 2, 0, 0, 0, 0, 1, 2] 0 = 0 ∧
    rdC [2, 2, 0, 0, 0, 0, 1, 2] 0 = 0 ∧ rdN [2, 2, 0, 0, 0, 0, 1, 2] 0 = 258 := by
  refine ⟨by decide +kernel, by decide +kernel, by decide +kernel, by decide +kernel, by decide +kernel, by decide +kernel, by decide +kernel⟩

theorem got_both : gotI [2, 2, 0, 0, 0, 0, 1, 2] 0 true = insC 2 2 0 0 258 ∧ gotE [2, 2, 0, 0, 0, 0, 1, 2] 0 true = 0 := by
  obtain ⟨h1, _, h2, h3, h4, h5, h6⟩ := got_set
  unfold gotI gotE
  rw [h1, h2, h3, h4, h5, h6, ch_set]
  exact ⟨rfl, rfl⟩

theorem fld1 (w : World) : (Instr.field 29 (.agg #[.int .i64 2, .int .i64 7, .int .i64 0, .int .i64 0, .int .i64 258]) 1).run Tryd.prog w = .ok (.int .i64 7) w := by kernel_rfl

set_option maxHeartbeats 4000000 in
theorem known08_any (w : World) (h : Txs w) : Calls Tryd.prog 21 #[] w fun e w' => e = .returned (.bool true) ∧ Below w.heap.size w w' := by
  have HT := Lib.hid h
  have h2 := h.two
  have HP := Lib.hid (iput_any (.slice none 0 0) [] 2 2 0 0 258 (w.alloc (.cells (insC 2 2 0 0 258) 29)) .nil (by simp))
  rw [ins_set, List.nil_append] at HP
  have B0 := Lib.hid ((Below.refl w.heap.size w).alloc (Nat.le_refl _) (.cells (insC 2 2 0 0 258) 29))
  have X0 := Lib.hid (Blk.new w 29 (insC 2 2 0 0 258))
  unfold insC at HP
  clear h
  go_enter Tryd.func21, Tryd.ntmps21
  go_wp2_with fail
  refine HP.out.mono ?_
  rintro e w1 ⟨v1, rfl, hown, hb⟩
  have s1 : w.heap.size + 1 ≤ w1.heap.size := by simpa using hb.size
  have V1 := SlV.of_own hown
  have B1 := Lib.hid (B0.out.trans (hb.mono (by simp)))
  have X1 := Lib.hid (X0.out.below hb (by simp))
  have HN := Lib.hid (new_any v1 _ w1 _ V1 (by simp))
  have HV1 := Lib.hid V1
  clear hown hb V1 HP B0 X0
  go_wp2_with fail
  refine HN.out.mono ?_
  rintro e w2 ⟨g, A, c, rfl, hg, hr, hb⟩
  have s2 := hb.size
  have B2 := Lib.hid (B1.out.trans (hb.mono (by omega)))
  have X2 := Lib.hid (X1.out.below hb (by omega))
  have V2 := Lib.hid (HV1.out.below hb)
  have HG := Lib.hid (get_any w2 g A c _ 0 true hr (HT.out.below B2.out) (by omega))
  have hgl := hr.blk.lt
  unfold Got at HG
  rw [got_both.1, got_both.2] at HG
  clear hb HN B1 X1 HV1 hr
  go_wp2_with fail
  refine HG.out.mono ?_
  rintro e w3 ⟨rfl, _, ho⟩
  have s3 := ho.size
  have B3 := Lib.hid (below_of_only B2.out ho (by omega) (by omega))
  have X3 := Lib.hid (X2.out.only ho (by omega))
  have V3 := Lib.hid (V2.out.only ho (by omega) (by omega))
  have hc := text_of V3.out
  have x0 : w3.cell? ⟨w.heap.size, 0, none⟩ = some (.int .i64 2) := by rw [X3.out.cell]; rfl
  have x1 : w3.cell? ⟨w.heap.size, 1, none⟩ = some (.int .i64 2) := by rw [X3.out.cell]; rfl
  have x2 : w3.cell? ⟨w.heap.size, 2, none⟩ = some (.int .i64 0) := by rw [X3.out.cell]; rfl
  have x3 : w3.cell? ⟨w.heap.size, 3, none⟩ = some (.int .i64 0) := by rw [X3.out.cell]; rfl
  have x4 : w3.cell? ⟨w.heap.size, 4, none⟩ = some (.int .i64 258) := by rw [X3.out.cell]; rfl
  have hc4 : ∀ o : Obj, (convert 30 9 v1).run Tryd.prog (w3.alloc o) = .ok (.string ⟨([2, 2, 0, 0, 0, 0, 1, 2] : List UInt8).toArray⟩) (w3.alloc o) := fun o =>
    text_of (V3.out.below (w' := w3.alloc o) (((Below.refl w3.heap.size w3).alloc (Nat.le_refl _) o).mono (by omega)))
  have hw3 : w.heap.size < w3.heap.size := by omega
  have hnw : ¬ w.heap.size = w3.heap.size := by omega
  have HC := Lib.hid (fun w h => check_any 1 0 1 0 0 w h)
  rw [ch_nop] at HC
  have HO := Lib.hid (fun w => operand_any 2 2 0 0 258 3 w)
  have HW := Lib.hid (fun w => with_any 2 2 0 0 258 0 7 w)
  clear ho HG B2 X2 V2 hc
  unfold insC
  go_wp2_with fail
  have X3' := Lib.hid (X3.out.alloc (.cells (insC 2 2 0 0 258) 29))
  have B3' := Lib.hid (B3.out.alloc (by omega) (.cells (insC 2 2 0 0 258) 29))
  refine (HC.out _ (HT.out.below B3'.out)).mono ?_
  rintro e w4 ⟨rfl, hb⟩
  have s4 : w3.heap.size + 1 ≤ w4.heap.size := by simpa using hb.size
  have X4 := Lib.hid (X3'.out.below hb (by simp; omega))
  have B4 := Lib.hid (B3'.out.trans (hb.mono (by simp; omega)))
  clear hb x0 x1 x2 x3 x4 hc4 X3 X3' B3 B3' V3 HC
  have x0 : w4.cell? ⟨w.heap.size, 0, none⟩ = some (.int .i64 2) := by rw [X4.out.cell]; rfl
  have x1 : w4.cell? ⟨w.heap.size, 1, none⟩ = some (.int .i64 2) := by rw [X4.out.cell]; rfl
  have x2 : w4.cell? ⟨w.heap.size, 2, none⟩ = some (.int .i64 0) := by rw [X4.out.cell]; rfl
  have x3 : w4.cell? ⟨w.heap.size, 3, none⟩ = some (.int .i64 0) := by rw [X4.out.cell]; rfl
  have x4 : w4.cell? ⟨w.heap.size, 4, none⟩ = some (.int .i64 258) := by rw [X4.out.cell]; rfl
  have l4 : w.heap.size < w4.heap.size := by omega
  go_wp2_with fail
  refine (HO.out _).mono ?_
  rintro e w5 ⟨rfl, hb⟩
  have s5 := hb.size
  have X5 := Lib.hid (X4.out.below hb (by omega))
  have B5 := Lib.hid (B4.out.trans (hb.mono (by omega)))
  clear hb x0 x1 x2 x3 x4 X4 B4 HO
  have x0 : w5.cell? ⟨w.heap.size, 0, none⟩ = some (.int .i64 2) := by rw [X5.out.cell]; rfl
  have x1 : w5.cell? ⟨w.heap.size, 1, none⟩ = some (.int .i64 2) := by rw [X5.out.cell]; rfl
  have x2 : w5.cell? ⟨w.heap.size, 2, none⟩ = some (.int .i64 0) := by rw [X5.out.cell]; rfl
  have x3 : w5.cell? ⟨w.heap.size, 3, none⟩ = some (.int .i64 0) := by rw [X5.out.cell]; rfl
  have x4 : w5.cell? ⟨w.heap.size, 4, none⟩ = some (.int .i64 258) := by rw [X5.out.cell]; rfl
  have l5 : w.heap.size < w5.heap.size := by omega
  go_wp2_with fail
  refine (HW.out _).mono ?_
  rintro e w6 ⟨rfl, hb⟩
  have B6 := Lib.hid (B5.out.trans (hb.mono (by omega)))
  have hwv : withV 2 2 0 0 258 0 7 = #[.int .i64 2, .int .i64 7, .int .i64 0, .int .i64 0, .int .i64 258] := rfl
  rw [hwv]
  have hfl := fld1
  clear hb hwv
  go_wp2_with fail
  go_ret
  exact ⟨rfl, B6.out⟩
end Go.Proofs.YtieacapdfeljfaaDoor.By
