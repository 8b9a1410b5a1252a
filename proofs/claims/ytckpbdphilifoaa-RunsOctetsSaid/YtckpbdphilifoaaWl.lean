/-
  WALKS of layer 13: tables of bytes: take.
-/
import Derived.Test.YtckpbdphilifoaaWk
namespace Go.Proofs.Ytckpbdphilifoaa.By
open Go.RowKit
open Mem Gm Rf
set_option linter.unusedSimpArgs false

def cellsK (l : List UInt8) (s : Std) (k : Nat) : Array Value := #[.int .i64 (if 0 < k then rvS l (sK l s 0) 2 else 0), .int .i64 (if 1 < k then rvS l (sK l s 1) 2 else 0), .int .i64 (if 2 < k then rvS l (sK l s 2) 2 else 0), .bool false, .int .i64 (if 3 < k then rvS l (sK l s 3) 2 else 0)]

theorem blk_fr5 {w : World} {g : Nat} {t : TypeId} {cs : Array Value} (h : Blk w g t cs) : w.frozen? ⟨g, 0, none⟩ = false ∧ w.frozen? ⟨g, 1, none⟩ = false ∧ w.frozen? ⟨g, 2, none⟩ = false ∧ w.frozen? ⟨g, 3, none⟩ = false ∧ w.frozen? ⟨g, 4, none⟩ = false :=
  ⟨h.frozen 0, h.frozen 1, h.frozen 2, h.frozen 3, h.frozen 4⟩
theorem blk_ce5 {w : World} {g : Nat} {t : TypeId} {a b c d e : Value} (h : Blk w g t #[a, b, c, d, e]) : w.cell? ⟨g, 0, none⟩ = some a ∧ w.cell? ⟨g, 1, none⟩ = some b ∧ w.cell? ⟨g, 2, none⟩ = some c ∧ w.cell? ⟨g, 3, none⟩ = some d ∧ w.cell? ⟨g, 4, none⟩ = some e :=
  ⟨h.cell 0, h.cell 1, h.cell 2, h.cell 3, h.cell 4⟩

/-- Only block g has turned of those that lay there. -/
theorem only_high {a b : World} {g : Nat} (h : a.grownBy b (some g)) (p : Addr) (u : Value) (hp : a.heap.size ≤ p.block) : a.grownBy (b.setCell p u) (some g) :=
  ⟨h.os, h.tape, h.output, by simpa [World.setCell] using h.size, fun k hk hne => (Below.heap_setCell b p u k (by omega)).trans (h.block k hk hne)⟩
theorem only_to {a b c : World} {g : Nat} (h : a.grownBy b (some g)) (k : b.grownBy c (some g)) : a.grownBy c (some g) := only_trans h k

theorem rd_put5 {w : World} {g : Nat} {A : Option Addr} {c : Nat} {l : List UInt8} {s : Std} (h : RdS w g A c l s) (r : Nat) (hr : g < r) (a b d e f : Value) : RdS (((((w.setCell ⟨r, 0, none⟩ a).setCell ⟨r, 1, none⟩ b).setCell ⟨r, 2, none⟩ d).setCell ⟨r, 3, none⟩ e).setCell ⟨r, 4, none⟩ f) g A c l s :=
  rd_other (rd_other (rd_other (rd_other (rd_other h _ _ hr) _ _ hr) _ _ hr) _ _ hr) _ _ hr
theorem only_put5 {a b : World} {g : Nat} (h : a.grownBy b (some g)) (r : Nat) (hr : a.heap.size ≤ r) (x y z u v : Value) : a.grownBy (((((b.setCell ⟨r, 0, none⟩ x).setCell ⟨r, 1, none⟩ y).setCell ⟨r, 2, none⟩ z).setCell ⟨r, 3, none⟩ u).setCell ⟨r, 4, none⟩ v) (some g) :=
  only_high (only_high (only_high (only_high (only_high h _ _ hr) _ _ hr) _ _ hr) _ _ hr) _ _ hr

def TkAns (l : List UInt8) (s : Std) (w : World) (g : Nat) (A : Option Addr) (c : Nat) (e : Ending) (w' : World) : Prop :=
  e = .returned (.tuple #[aggRn (tkR l s), .int .i64 (tkE l s)]) ∧ RdS w' g A c l (s5 l s) ∧ w.grownBy w' (some g)

set_option maxRecDepth 100000 in
set_option maxHeartbeats 4000000 in
theorem take_run (w : World) (g : Nat) (A : Option Addr) (c : Nat) (l : List UInt8) (s : Std) (h : RdS w g A c l s) :
    Calls Try.prog 45 #[.pointer (some ⟨g, 0, none⟩)] w (TkAns l s w g A c) := by
  have hg : g < w.heap.size := h.blk.lt
  obtain ⟨W, hW⟩ : ∃ W, (w.alloc (.cells #[.int .i64 0, .int .i64 0, .int .i64 0, .bool false, .int .i64 0] 60)).alloc (.cells #[.int .i64 0, .int .i64 0, .int .i64 0, .bool false, .int .i64 0] 60) = W := ⟨_, rfl⟩
  have hB : Below w.heap.size w W := by rw [← hW]; exact to_ (alloc_ _ _) (alloc_ _ _)
  have hb0 : Blk W w.heap.size 60 #[.int .i64 0, .int .i64 0, .int .i64 0, .bool false, .int .i64 0] := by rw [← hW]; exact (Blk.new w _ _).alloc _
  have hb1 : Blk W (w.heap.size + 1) 60 #[.int .i64 0, .int .i64 0, .int .i64 0, .bool false, .int .i64 0] := by
    rw [← hW]; have := Blk.new (w.alloc (.cells #[.int .i64 0, .int .i64 0, .int .i64 0, .bool false, .int .i64 0] 60)) 60 #[.int .i64 0, .int .i64 0, .int .i64 0, .bool false, .int .i64 0]; rwa [World.size_alloc] at this
  have HW0 := Lib.hid (show RdS W g A c l s ∧ Blk W w.heap.size 60 #[.int .i64 0, .int .i64 0, .int .i64 0, .bool false, .int .i64 0] ∧ Blk W (w.heap.size + 1) 60 (cellsK l s 0) ∧ w.grownBy W (some g) from ⟨Rdr.below h hB hg, hb0, hb1, only_of_below g hB⟩)
  have HN := Lib.hid (fun W s (h : RdS W g A c l s) (k : Int) => num_s W g A c l s h k)
  have HBD := Lib.hid (fun W s (h : RdS W g A c l s) => bad_s W g A c l s h)
  have HG := Lib.hid hg
  obtain ⟨i0, i1, i2, i3⟩ : (∀ W, _) ∧ (∀ W, _) ∧ (∀ W, _) ∧ (∀ W, _) := ⟨fun W => (index4p (.pointer (some ⟨w.heap.size + 1, 0, none⟩)) (.pointer (some ⟨w.heap.size + 1, 1, none⟩)) (.pointer (some ⟨w.heap.size + 1, 2, none⟩)) (.pointer (some ⟨w.heap.size + 1, 4, none⟩)) W).1, fun W => (index4p (.pointer (some ⟨w.heap.size + 1, 0, none⟩)) (.pointer (some ⟨w.heap.size + 1, 1, none⟩)) (.pointer (some ⟨w.heap.size + 1, 2, none⟩)) (.pointer (some ⟨w.heap.size + 1, 4, none⟩)) W).2.1, fun W => (index4p (.pointer (some ⟨w.heap.size + 1, 0, none⟩)) (.pointer (some ⟨w.heap.size + 1, 1, none⟩)) (.pointer (some ⟨w.heap.size + 1, 2, none⟩)) (.pointer (some ⟨w.heap.size + 1, 4, none⟩)) W).2.2.1, fun W => (index4p (.pointer (some ⟨w.heap.size + 1, 0, none⟩)) (.pointer (some ⟨w.heap.size + 1, 1, none⟩)) (.pointer (some ⟨w.heap.size + 1, 2, none⟩)) (.pointer (some ⟨w.heap.size + 1, 4, none⟩)) W).2.2.2⟩
  clear h hB hb0 hb1 hg
  go_enter Try.func45, Try.ntmps45
  go_wp2_with fail
  clear hW
  go_loopw [16] (fun i wr => ∃ k : Nat, k ≤ 4 ∧ i = .int .i64 (k : Int) ∧ RdS wr g A c l (sK l s k) ∧ Blk wr w.heap.size 60 #[.int .i64 0, .int .i64 0, .int .i64 0, .bool false, .int .i64 0] ∧ Blk wr (w.heap.size + 1) 60 (cellsK l s k) ∧ w.grownBy wr (some g)) (fun i _ => 4 - (intOf i).toNat)
  case atStart => exact ⟨0, Nat.zero_le _, rfl, HW0.out⟩
  case round =>
    obtain ⟨k, hk, rfl, hrd, hrb, hxb, hgr⟩ := hrel
    have HST := Lib.hid (show RdS wr g A c l (sK l s k) ∧ Blk wr w.heap.size 60 #[.int .i64 0, .int .i64 0, .int .i64 0, .bool false, .int .i64 0] ∧ Blk wr (w.heap.size + 1) 60 (cellsK l s k) ∧ w.grownBy wr (some g) from ⟨hrd, hrb, hxb, hgr⟩)
    clear hrd hrb hxb hgr
    have hcs : k = 4 ∨ k = 0 ∨ k = 1 ∨ k = 2 ∨ k = 3 := by omega
    rcases hcs with rfl | hcs
    · clear i0 i1 i2 i3
      obtain ⟨z, hz⟩ : ∃ z, pend l s = z := ⟨_, rfl⟩
      obtain ⟨bl, hbl⟩ : ∃ bl, (s5 l s).2 = bl := ⟨_, rfl⟩
      have HZ := Lib.hid hz
      have HBL := Lib.hid hbl
      have hzz : rvS l (sK l s 4) 1 = z := hz
      have hbb : (pgS l (sK l s 4) 1).2 = bl := hbl
      have hc4 : cellsK l s 4 = #[.int .i64 (rvS l (sK l s 0) 2), .int .i64 (rvS l (sK l s 1) 2), .int .i64 (rvS l (sK l s 2) 2), .bool false, .int .i64 (rvS l (sK l s 3) 2)] := by simp [cellsK]
      have HX := Lib.hid (show tkX l s = (rvS l (sK l s 0) 2, rvS l (sK l s 1) 2, rvS l (sK l s 2) 2, z == 1, rvS l (sK l s 3) 2) from by rw [← hz]; rfl)
      rw [hc4] at HST
      generalize rvS l (sK l s 0) 2 = v0 at HST HX
      generalize rvS l (sK l s 1) 2 = v1 at HST HX
      generalize rvS l (sK l s 2) 2 = v2 at HST HX
      generalize rvS l (sK l s 3) 2 = v3 at HST HX
      clear hz hbl hc4
      have HN4 := Lib.hid (show Calls Try.prog 44 #[.pointer (some ⟨g, 0, none⟩), .int .i64 1] wr fun e w' => e = .returned (.int .i64 z) ∧ RdS w' g A c l (s5 l s) ∧ wr.grownBy w' (some g) from (HN.out wr _ HST.out.1 1).mono fun e w' hh => by rw [← hzz]; exact hh)
      have HBD4 := Lib.hid (fun W (hh : RdS W g A c l (s5 l s)) => by have := HBD.out W _ hh; rw [HBL.out] at this; exact this)
      clear hzz hbb
      cases bl with
      | false =>
        have HE := Lib.hid (show tkE l s = 5 from by unfold tkE; rw [if_pos HBL.out])
        have HRR := Lib.hid (show tkR l s = rn0 from by unfold tkR; rw [HE.out, if_neg (by decide)])
        go_wp2_with (first | (go_at_call 44; refine HN4.out.mono ?_; rintro e w9 ⟨rfl, hr9, hg9⟩; have HR9 := Lib.hid hr9; have HGR9 := Lib.hid (only_to HST.out.2.2.2 hg9); have hxb9 := blk_only HST.out.2.2.1 hg9 (by have := HG.out; omega); have hrb9 := blk_only HST.out.2.1 hg9 (by have := HG.out; omega); obtain ⟨f0, f1, f2, f3, f4⟩ := blk_fr5 hxb9; obtain ⟨x0, x1, x2, x3, x4⟩ := blk_ce5 hxb9; obtain ⟨r0, r1, r2, r3, r4⟩ := blk_ce5 hrb9; obtain ⟨q0, q1, q2, q3, q4⟩ := blk_fr5 hrb9; have HXB := Lib.hid hxb9; have HRB := Lib.hid hrb9; clear hr9 hg9 hxb9 hrb9) | (go_at_call 46; refine (HBD4.out _ HR9.out).mono ?_; rintro e w10 ⟨rfl, rfl⟩))
        refine bodyPost_ret (v := .tuple #[.agg #[.int .i64 0, .int .i64 0, .int .i64 0, .bool false, .int .i64 0], .int .i64 5]) (by simp [results, Try.results45, go_sem, r0, r1, r2, r3, r4]) rfl ⟨?_, rd_put5 HR9.out _ (by have := HG.out; omega) _ _ _ _ _, only_put5 HGR9.out _ (Nat.le_refl _) _ _ _ _ _⟩
        rw [HE.out, HRR.out]; rfl
      | true =>
        by_cases h1 : 1 < z
        · have HE := Lib.hid (show tkE l s = 3 from by unfold tkE; rw [HBL.out, if_neg (by simp), HZ.out, if_pos h1])
          have HRR := Lib.hid (show tkR l s = rn0 from by unfold tkR; rw [HE.out, if_neg (by decide)])
          go_wp2_with (first | (go_at_call 44; refine HN4.out.mono ?_; rintro e w9 ⟨rfl, hr9, hg9⟩; have HR9 := Lib.hid hr9; have HGR9 := Lib.hid (only_to HST.out.2.2.2 hg9); have hxb9 := blk_only HST.out.2.2.1 hg9 (by have := HG.out; omega); have hrb9 := blk_only HST.out.2.1 hg9 (by have := HG.out; omega); obtain ⟨f0, f1, f2, f3, f4⟩ := blk_fr5 hxb9; obtain ⟨x0, x1, x2, x3, x4⟩ := blk_ce5 hxb9; obtain ⟨r0, r1, r2, r3, r4⟩ := blk_ce5 hrb9; obtain ⟨q0, q1, q2, q3, q4⟩ := blk_fr5 hrb9; have HXB := Lib.hid hxb9; have HRB := Lib.hid hrb9; clear hr9 hg9 hxb9 hrb9) | (go_at_call 46; refine (HBD4.out _ HR9.out).mono ?_; rintro e w10 ⟨rfl, rfl⟩))
          refine bodyPost_ret (v := .tuple #[.agg #[.int .i64 0, .int .i64 0, .int .i64 0, .bool false, .int .i64 0], .int .i64 3]) (by simp [results, Try.results45, go_sem, r0, r1, r2, r3, r4]) rfl ⟨?_, rd_put5 HR9.out _ (by have := HG.out; omega) _ _ _ _ _, only_put5 HGR9.out _ (Nat.le_refl _) _ _ _ _ _⟩
          rw [HE.out, HRR.out]; rfl
        · have HE := Lib.hid (show tkE l s = 0 from by unfold tkE; rw [HBL.out, if_neg (by simp), HZ.out, if_neg h1])
          have HRR := Lib.hid (show tkR l s = (v0, v1, v2, z == 1, v3) from by unfold tkR; rw [HE.out, if_pos rfl, HX.out])
          obtain ⟨be, hbe⟩ : ∃ be, (z == 1) = be := ⟨_, rfl⟩
          rw [hbe] at HRR
          go_wp2_with (first | (go_at_call 44; refine HN4.out.mono ?_; rintro e w9 ⟨rfl, hr9, hg9⟩; have HR9 := Lib.hid hr9; have HGR9 := Lib.hid (only_to HST.out.2.2.2 hg9); have hxb9 := blk_only HST.out.2.2.1 hg9 (by have := HG.out; omega); have hrb9 := blk_only HST.out.2.1 hg9 (by have := HG.out; omega); obtain ⟨f0, f1, f2, f3, f4⟩ := blk_fr5 hxb9; obtain ⟨x0, x1, x2, x3, x4⟩ := blk_ce5 hxb9; obtain ⟨r0, r1, r2, r3, r4⟩ := blk_ce5 hrb9; obtain ⟨q0, q1, q2, q3, q4⟩ := blk_fr5 hrb9; have HXB := Lib.hid hxb9; have HRB := Lib.hid hrb9; clear hr9 hg9 hxb9 hrb9) | (go_at_call 46; refine (HBD4.out _ HR9.out).mono ?_; rintro e w10 ⟨rfl, rfl⟩))
          refine bodyPost_ret (v := .tuple #[.agg #[.int .i64 v0, .int .i64 v1, .int .i64 v2, .bool be, .int .i64 v3], .int .i64 0]) (by simp [results, Try.results45, go_sem, r0, r1, r2, r3, r4]) rfl ⟨?_, rd_put5 (rd_other HR9.out _ _ (by have := HG.out; show g < w.heap.size + 1; omega)) _ (by have := HG.out; omega) _ _ _ _ _, only_put5 (only_high HGR9.out _ _ (by show w.heap.size ≤ w.heap.size + 1; omega)) _ (Nat.le_refl _) _ _ _ _ _⟩
          rw [HE.out, HRR.out]; rfl
    · rcases hcs with rfl | rfl | rfl | rfl
      · go_wp2_with (go_at_call 44; refine (HN.out wr _ HST.out.1 2).mono ?_; rintro e w9 ⟨rfl, hr9, hg9⟩; have HR9 := Lib.hid hr9; have HGR9 := Lib.hid (only_to HST.out.2.2.2 hg9); have hxb9 := blk_only HST.out.2.2.1 hg9 (by have := HG.out; omega); have hrb9 := blk_only HST.out.2.1 hg9 (by have := HG.out; omega); obtain ⟨f0, f1, f2, f3, f4⟩ := blk_fr5 hxb9; obtain ⟨x0, x1, x2, x3, x4⟩ := blk_ce5 hxb9; obtain ⟨r0, r1, r2, r3, r4⟩ := blk_ce5 hrb9; obtain ⟨q0, q1, q2, q3, q4⟩ := blk_fr5 hrb9; have HXB := Lib.hid hxb9; have HRB := Lib.hid hrb9; clear hr9 hg9 hxb9 hrb9)
        go_roundw
        case rel =>
          refine ⟨1, by omega, by go_num, rd_other HR9.out _ _ (by have := HG.out; show g < w.heap.size + 1; omega), blk_away HRB.out _ _ (by show w.heap.size ≠ w.heap.size + 1; omega), ?_, only_high HGR9.out _ _ (by show w.heap.size ≤ w.heap.size + 1; omega)⟩
          have h9 := HXB.out.stored 0 (.int .i64 (rvS l (sK l s 0) 2))
          simpa [cellsK] using h9
        case measure => simp [intOf]
      · go_wp2_with (go_at_call 44; refine (HN.out wr _ HST.out.1 2).mono ?_; rintro e w9 ⟨rfl, hr9, hg9⟩; have HR9 := Lib.hid hr9; have HGR9 := Lib.hid (only_to HST.out.2.2.2 hg9); have hxb9 := blk_only HST.out.2.2.1 hg9 (by have := HG.out; omega); have hrb9 := blk_only HST.out.2.1 hg9 (by have := HG.out; omega); obtain ⟨f0, f1, f2, f3, f4⟩ := blk_fr5 hxb9; obtain ⟨x0, x1, x2, x3, x4⟩ := blk_ce5 hxb9; obtain ⟨r0, r1, r2, r3, r4⟩ := blk_ce5 hrb9; obtain ⟨q0, q1, q2, q3, q4⟩ := blk_fr5 hrb9; have HXB := Lib.hid hxb9; have HRB := Lib.hid hrb9; clear hr9 hg9 hxb9 hrb9)
        go_roundw
        case rel =>
          refine ⟨2, by omega, by go_num, rd_other HR9.out _ _ (by have := HG.out; show g < w.heap.size + 1; omega), blk_away HRB.out _ _ (by show w.heap.size ≠ w.heap.size + 1; omega), ?_, only_high HGR9.out _ _ (by show w.heap.size ≤ w.heap.size + 1; omega)⟩
          have h9 := HXB.out.stored 1 (.int .i64 (rvS l (sK l s 1) 2))
          simpa [cellsK] using h9
        case measure => simp [intOf]
      · go_wp2_with (go_at_call 44; refine (HN.out wr _ HST.out.1 2).mono ?_; rintro e w9 ⟨rfl, hr9, hg9⟩; have HR9 := Lib.hid hr9; have HGR9 := Lib.hid (only_to HST.out.2.2.2 hg9); have hxb9 := blk_only HST.out.2.2.1 hg9 (by have := HG.out; omega); have hrb9 := blk_only HST.out.2.1 hg9 (by have := HG.out; omega); obtain ⟨f0, f1, f2, f3, f4⟩ := blk_fr5 hxb9; obtain ⟨x0, x1, x2, x3, x4⟩ := blk_ce5 hxb9; obtain ⟨r0, r1, r2, r3, r4⟩ := blk_ce5 hrb9; obtain ⟨q0, q1, q2, q3, q4⟩ := blk_fr5 hrb9; have HXB := Lib.hid hxb9; have HRB := Lib.hid hrb9; clear hr9 hg9 hxb9 hrb9)
        go_roundw
        case rel =>
          refine ⟨3, by omega, by go_num, rd_other HR9.out _ _ (by have := HG.out; show g < w.heap.size + 1; omega), blk_away HRB.out _ _ (by show w.heap.size ≠ w.heap.size + 1; omega), ?_, only_high HGR9.out _ _ (by show w.heap.size ≤ w.heap.size + 1; omega)⟩
          have h9 := HXB.out.stored 2 (.int .i64 (rvS l (sK l s 2) 2))
          simpa [cellsK] using h9
        case measure => simp [intOf]
      · go_wp2_with (go_at_call 44; refine (HN.out wr _ HST.out.1 2).mono ?_; rintro e w9 ⟨rfl, hr9, hg9⟩; have HR9 := Lib.hid hr9; have HGR9 := Lib.hid (only_to HST.out.2.2.2 hg9); have hxb9 := blk_only HST.out.2.2.1 hg9 (by have := HG.out; omega); have hrb9 := blk_only HST.out.2.1 hg9 (by have := HG.out; omega); obtain ⟨f0, f1, f2, f3, f4⟩ := blk_fr5 hxb9; obtain ⟨x0, x1, x2, x3, x4⟩ := blk_ce5 hxb9; obtain ⟨r0, r1, r2, r3, r4⟩ := blk_ce5 hrb9; obtain ⟨q0, q1, q2, q3, q4⟩ := blk_fr5 hrb9; have HXB := Lib.hid hxb9; have HRB := Lib.hid hrb9; clear hr9 hg9 hxb9 hrb9)
        go_roundw
        case rel =>
          refine ⟨4, by omega, by go_num, rd_other HR9.out _ _ (by have := HG.out; show g < w.heap.size + 1; omega), blk_away HRB.out _ _ (by show w.heap.size ≠ w.heap.size + 1; omega), ?_, only_high HGR9.out _ _ (by show w.heap.size ≤ w.heap.size + 1; omega)⟩
          have h9 := HXB.out.stored 4 (.int .i64 (rvS l (sK l s 3) 2))
          simpa [cellsK] using h9
        case measure => simp [intOf]
end Go.Proofs.Ytckpbdphilifoaa.By
