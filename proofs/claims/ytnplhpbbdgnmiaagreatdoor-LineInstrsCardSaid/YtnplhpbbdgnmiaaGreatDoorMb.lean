/-
  WALK of layer 9: Parse.
-/
import Derived.Test.YtnplhpbbdgnmiaaGreatDoorMa
import Derived.Test.YtnplhpbbdgnmiaaGreatDoorMd
namespace Go.Proofs.YtnplhpbbdgnmiaaGreatDoor.Ln
open Go.RowKit
open Mem Go.Lib

theorem word_size (s : ByteArray) : ∀ x ∈ wordsL s, x.size ≤ s.size := fun x hx => by
  obtain ⟨p, _, rfl⟩ := List.mem_map.1 hx
  rw [ByteArray.size_extract]; omega

theorem wl_few : ∀ (l cur : List UInt8), (wl cur l).length ≤ l.length + 1
  | [], cur => by
    rw [wl]; split <;> simp
  | c :: r, cur => by
    rw [wl]
    split
    · split
      · have := wl_few r []; simp only [List.length_cons]; omega
      · have := wl_few r []; simp only [List.length_cons]; omega
    · have := wl_few r (cur ++ [c]); simp only [List.length_cons]; omega
theorem words_few (s : ByteArray) : (wordsL s).length ≤ s.size + 1 := by
  have h := wl_few s.data.toList []
  rw [← words_wl, List.length_map, len_list] at h
  exact h

def ParAns (s : ByteArray) (w : World) (e : Ending) (w' : World) : Prop := e = .returned (.tuple #[.agg (parV s).1, .int .i64 (parV s).2]) ∧ Below w.heap.size w w'

set_option maxRecDepth 100000 in
set_option maxHeartbeats 4000000 in
theorem parse_any (s : ByteArray) (w : World) (hs : s.size ≤ 1000) (he : Er w) (ht : Tb w) (hx : By.Txs w) (hy : Si.Txs w) :
    Calls Tryz.prog 20 #[.string s] w (ParAns s w) := by
  have HW := Lib.hid (fun W => words_any s W (by omega))
  have HX := Lib.hid hx
  have HY := Lib.hid hy
  have HE := Lib.hid he
  have HT := Lib.hid ht
  have HWS := Lib.hid (show ∀ x ∈ wordsL s, x.size ≤ 1000000 from fun x h => by have := word_size s x h; omega)
  have HP := Lib.hid (parV_tg s)
  clear hs he ht hx hy
  go_enter Tryz.func20, Tryz.ntmps20
  go_wp2_with fail
  refine (HW.out _).mono ?_
  rintro e w1 ⟨A, c, rfl, hsl, hb1⟩
  have HB1 := Lib.hid ((show Below w.heap.size w _ from (Below.refl w.heap.size w).alloc (Nat.le_refl _) _).trans (hb1.mono (by simp)))
  have K1 := Lib.hid ((Blk.new w 34 #[.int .i64 0, .int .i64 0, .int .i64 0, .int .i64 0, .int .i64 0]).below hb1 (by simp))
  have HTG := Lib.hid (together_any A c _ (wordsL s) w1 rfl hsl HWS.out (HE.out.below HB1.out) (HT.out.below HB1.out) (HX.out.below HB1.out) (HY.out.below HB1.out))
  clear hb1 hsl
  generalize wordsL s = ws at HTG HP
  go_wp2_with fail
  refine HTG.out.mono ?_
  rintro e w2 ⟨o, q, ok, rfl, ho1, ho2, hb2⟩
  obtain ⟨a, b, c2, n2⟩ := q
  have hins : insQ o (a, b, c2, n2) = #[.int .i64 o, .int .i64 a, .int .i64 b, .int .i64 c2, .int .i64 n2] := rfl
  rw [hins]
  have K2 := Lib.hid (K1.out.below hb2 K1.out.lt)
  have HB2 := Lib.hid (HB1.out.trans (hb2.mono HB1.out.size))
  obtain ⟨w3, hw3⟩ : ∃ W, w2.alloc (.cells #[.int .i64 o, .int .i64 a, .int .i64 b, .int .i64 c2, .int .i64 n2] 34) = W := ⟨_, rfl⟩
  have K3 := Lib.hid (show Blk w3 w.heap.size 34 #[.int .i64 0, .int .i64 0, .int .i64 0, .int .i64 0, .int .i64 0] by rw [← hw3]; exact K2.out.alloc _)
  have X3 := Lib.hid (show Blk w3 w2.heap.size 34 #[.int .i64 o, .int .i64 a, .int .i64 b, .int .i64 c2, .int .i64 n2] by rw [← hw3]; exact Blk.new _ _ _)
  have HB3 := Lib.hid (show Below w.heap.size w w3 by rw [← hw3]; exact HB2.out.alloc HB2.out.size _)
  have HO1 := Lib.hid ho1
  have HO2 := Lib.hid ho2
  clear hb2 ho1 ho2 K1 K2 HB1 HB2 hins
  have r0 : w3.cell? ⟨w.heap.size, 0, none⟩ = some (.int .i64 0) := by rw [K3.out.cell]; rfl
  have r1 : w3.cell? ⟨w.heap.size, 1, none⟩ = some (.int .i64 0) := by rw [K3.out.cell]; rfl
  have r2 : w3.cell? ⟨w.heap.size, 2, none⟩ = some (.int .i64 0) := by rw [K3.out.cell]; rfl
  have r3 : w3.cell? ⟨w.heap.size, 3, none⟩ = some (.int .i64 0) := by rw [K3.out.cell]; rfl
  have r4 : w3.cell? ⟨w.heap.size, 4, none⟩ = some (.int .i64 0) := by rw [K3.out.cell]; rfl
  have t0 : w3.frozen? ⟨w.heap.size, 0, none⟩ = false := K3.out.frozen 0
  have t1 : w3.frozen? ⟨w.heap.size, 1, none⟩ = false := K3.out.frozen 1
  have t2 : w3.frozen? ⟨w.heap.size, 2, none⟩ = false := K3.out.frozen 2
  have t3 : w3.frozen? ⟨w.heap.size, 3, none⟩ = false := K3.out.frozen 3
  have t4 : w3.frozen? ⟨w.heap.size, 4, none⟩ = false := K3.out.frozen 4
  have hl1 : w.heap.size < w3.heap.size := K3.out.lt
  have x0 : w3.cell? ⟨w2.heap.size, 0, none⟩ = some (.int .i64 o) := by rw [X3.out.cell]; rfl
  have x1 : w3.cell? ⟨w2.heap.size, 1, none⟩ = some (.int .i64 a) := by rw [X3.out.cell]; rfl
  have x2 : w3.cell? ⟨w2.heap.size, 2, none⟩ = some (.int .i64 b) := by rw [X3.out.cell]; rfl
  have x3 : w3.cell? ⟨w2.heap.size, 3, none⟩ = some (.int .i64 c2) := by rw [X3.out.cell]; rfl
  have x4 : w3.cell? ⟨w2.heap.size, 4, none⟩ = some (.int .i64 n2) := by rw [X3.out.cell]; rfl
  have hlx : w2.heap.size < w3.heap.size := X3.out.lt
  cases ok with
  | false =>
    have HF := Lib.hid (show parV s = (zeroI, 3) by rw [HP.out, HO2.out rfl])
    go_wp2_with fail
    refine bodyPost_ret (v := .tuple #[.agg zeroI, .int .i64 3]) ?_ rfl ⟨by rw [HF.out], ?_⟩
    · simp [zeroI, By.insC, results, Tryz.results20, go_sem, r0, r1, r2, r3, r4]
    · exact five_below HB3.out (Nat.le_refl _) _ _ _ _ _
  | true =>
    have HF := Lib.hid (show parV s = if By.chV o a b c2 n2 ≠ 0 then (zeroI, By.chV o a b c2 n2) else (insQ o (a, b, c2, n2), 0) by rw [HP.out, HO1.out rfl])
    have HCK := Lib.hid (By.check_any o a b c2 n2 w3 (HX.out.below HB3.out))
    obtain ⟨ck, hck⟩ : ∃ ck, By.chV o a b c2 n2 = ck := ⟨_, rfl⟩
    rw [hck] at HF HCK
    clear hck r0 r1 r2 r3 r4 t0 t1 t2 t3 t4 hl1
    go_wp2_with fail
    refine HCK.out.mono ?_
    rintro e w4 ⟨rfl, hb4⟩
    have K4 := Lib.hid (K3.out.below hb4 K3.out.lt)
    have X4 := Lib.hid (X3.out.below hb4 X3.out.lt)
    have HB4 := Lib.hid (HB3.out.trans (hb4.mono HB3.out.size))
    clear hb4 x0 x1 x2 x3 x4 hlx
    have r0 : w4.cell? ⟨w.heap.size, 0, none⟩ = some (.int .i64 0) := by rw [K4.out.cell]; rfl
    have r1 : w4.cell? ⟨w.heap.size, 1, none⟩ = some (.int .i64 0) := by rw [K4.out.cell]; rfl
    have r2 : w4.cell? ⟨w.heap.size, 2, none⟩ = some (.int .i64 0) := by rw [K4.out.cell]; rfl
    have r3 : w4.cell? ⟨w.heap.size, 3, none⟩ = some (.int .i64 0) := by rw [K4.out.cell]; rfl
    have r4 : w4.cell? ⟨w.heap.size, 4, none⟩ = some (.int .i64 0) := by rw [K4.out.cell]; rfl
    have t0 : w4.frozen? ⟨w.heap.size, 0, none⟩ = false := K4.out.frozen 0
    have t1 : w4.frozen? ⟨w.heap.size, 1, none⟩ = false := K4.out.frozen 1
    have t2 : w4.frozen? ⟨w.heap.size, 2, none⟩ = false := K4.out.frozen 2
    have t3 : w4.frozen? ⟨w.heap.size, 3, none⟩ = false := K4.out.frozen 3
    have t4 : w4.frozen? ⟨w.heap.size, 4, none⟩ = false := K4.out.frozen 4
    have hl1 : w.heap.size < w4.heap.size := K4.out.lt
    have x0 : w4.cell? ⟨w2.heap.size, 0, none⟩ = some (.int .i64 o) := by rw [X4.out.cell]; rfl
    have x1 : w4.cell? ⟨w2.heap.size, 1, none⟩ = some (.int .i64 a) := by rw [X4.out.cell]; rfl
    have x2 : w4.cell? ⟨w2.heap.size, 2, none⟩ = some (.int .i64 b) := by rw [X4.out.cell]; rfl
    have x3 : w4.cell? ⟨w2.heap.size, 3, none⟩ = some (.int .i64 c2) := by rw [X4.out.cell]; rfl
    have x4 : w4.cell? ⟨w2.heap.size, 4, none⟩ = some (.int .i64 n2) := by rw [X4.out.cell]; rfl
    have hlx : w2.heap.size < w4.heap.size := X4.out.lt
    by_cases hz : ck = 0
    · subst hz
      have HF2 := Lib.hid (show parV s = (insQ o (a, b, c2, n2), 0) from HF.out)
      go_wp2_with fail
      refine bodyPost_ret (v := .tuple #[.agg (insQ o (a, b, c2, n2)), .int .i64 0]) ?_ rfl ⟨by rw [HF2.out], ?_⟩
      · simp [insQ, By.insC, results, Tryz.results20, go_sem, r0, r1, r2, r3, r4]
      · exact five_below HB4.out (Nat.le_refl _) _ _ _ _ _
    · have HF2 := Lib.hid (show parV s = (zeroI, ck) by rw [HF.out, if_pos hz])
      have hzq : (ck == 0) = false := by simpa using hz
      go_wp2_with fail
      refine bodyPost_ret (v := .tuple #[.agg zeroI, .int .i64 ck]) ?_ rfl ⟨by rw [HF2.out], ?_⟩
      · simp [zeroI, By.insC, results, Tryz.results20, go_sem, r0, r1, r2, r3, r4]
      · exact five_below HB4.out (Nat.le_refl _) _ _ _ _ _
end Go.Proofs.YtnplhpbbdgnmiaaGreatDoor.Ln
