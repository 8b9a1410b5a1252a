/-
 WALKS of layer 25: Same of layer 10, of rows to be read.
-/
import Derived.Test.YtnenmgefgdpkdaaGreatZa
import Derived.Test.YtnenmgefgdpkdaaGreatRa
namespace Go.Proofs.YtnenmgefgdpkdaaGreat.Bo
open Go.RowKit Go.Maps
open Mem Rf
set_option linter.unusedSimpArgs false
set_option linter.unusedVariables false
set_option maxRecDepth 100000 in
set_option maxHeartbeats 8000000 in
theorem same10_any (w : World) (A A2 : Option Addr) (n c c2 : Nat) (L : List (List Int)) (hl : L.length = n) (hn : n ≤ 1000) (hr : ∀ i, (By.rowOf L i).length ≤ 100000) (h : By.Gr w w.heap.size (.slice A n c) L) (h2 : By.Gr w w.heap.size (.slice A2 n c2) L) :
  Calls Tryz.prog 16 #[.slice A n c, .slice A2 n c2] w fun e w' => e = .returned (.bool true) ∧ Below w.heap.size w w' := by
 have HG := Lib.hid (fun W (hb : Below w.heap.size w W) => gr_on h hb)
 have HG2 := Lib.hid (fun W (hb : Below w.heap.size w W) => gr_on h2 hb)
 have HL := Lib.hid hl
 have HR := Lib.hid hr
 clear h h2 hl hr
 go_enter Tryz.func16, Tryz.ntmps16
 go_wp2_with fail
 go_loopw [5] (fun i9 wr => ∃ a : Nat, a ≤ n ∧ i9 = .int .i64 (a : Int) ∧ Hid (Below w.heap.size w wr)) (fun i9 _ => n - (intOf i9).toNat)
 case atStart => exact ⟨0, Nat.zero_le _, rfl, Lib.hid (Below.refl _ _)⟩
 case round =>
  obtain ⟨a, ha, rfl, HBW⟩ := hrel
  by_cases hlt : a < n
  ·have haI : (a : Int) < (n : Int) := by omega
   have ha0 : (0 : Int) ≤ (a : Int) := by omega
   have HLT := Lib.hid hlt
   obtain ⟨ad, A', c', rfl, _, y0, hil⟩ := gr_at (HG.out wr HBW.out) HL.out (Nat.le_refl _) hlt
   obtain ⟨ad2, B', d', rfl, _, z0, hil2⟩ := gr_at (HG2.out wr HBW.out) HL.out (Nat.le_refl _) hlt
   have HRA := Lib.hid (HR.out a)
   obtain ⟨l, hl9⟩ : ∃ l, By.rowOf L a = l := ⟨_, rfl⟩
   rw [hl9] at y0 z0 hil hil2 HRA
   clear hl9
   obtain ⟨m, hm⟩ : ∃ m, l.length = m := ⟨_, rfl⟩
   rw [hm] at y0 z0 hil hil2 HRA
   have hm9 := HRA.out
   clear hm
   have HI1 := Lib.hid (fun W (hb : Below wr.heap.size wr W) => hil.on hb)
   have HI2 := Lib.hid (fun W (hb : Below wr.heap.size wr W) => hil2.on hb)
   have HY := Lib.hid (fun W (hb : Below wr.heap.size wr W) => cell_on y0 hb)
   have HZ := Lib.hid (fun W (hb : Below wr.heap.size wr W) => cell_on z0 hb)
   clear hil hil2
   go_wp2_with fail
   refine wp_region_noPanic ?_
   refine wp_region_held_drew (S := fun W => W.cell? (ad.add a) = some (.slice A' m c') ∧ W.cell? (ad2.add a) = some (.slice B' m d')) (by kernel_rfl) (⟨y0, z0⟩) (fun hHeld => ?_)
   refine tkZ 0 rfl hHeld ?_
   try simp only [Act.put, nmZ]
   refine tkZ 1 rfl hHeld ?_
   try simp only [Act.put, nmZ]
   refine tkZ 2 rfl hHeld ?_
   try simp only [Act.put, nmZ]
   refine tkZ 3 rfl hHeld ?_
   try simp only [Act.put, nmZ]
   refine tkZ 4 rfl hHeld ?_
   try simp only [Act.put, nmZ]
   refine tkZ 5 rfl hHeld ?_
   try simp only [Act.put, nmZ]
   refine tkZ 6 rfl hHeld ?_
   try simp only [Act.put, nmZ]
   refine tkZ 7 rfl hHeld ?_
   try simp only [Act.put, nmZ]
   refine tkZ 8 rfl hHeld ?_
   try simp only [Act.put, nmZ]
   refine tkZ 9 rfl hHeld ?_
   try simp only [Act.put, nmZ]
   refine tkZ 10 rfl hHeld ?_
   try simp only [Act.put, nmZ]
   refine wpAnyH_done (by kernel_rfl) ?_ _
   refine NoPanic.normal ?_
   clear hHeld y0 z0
   go_wp2_with fail
   go_loopw [6] (fun i9 ws => ∃ k : Nat, k ≤ m ∧ i9 = .int .i64 (k : Int) ∧ Hid (Below wr.heap.size wr ws)) (fun i9 _ => m - (intOf i9).toNat)
   case atStart => exact ⟨0, Nat.zero_le _, rfl, Lib.hid (Below.refl _ _).drew⟩
   case round =>
    rename_i ws9
    obtain ⟨k, hk, rfl, HBS⟩ := hrel
    have y0 := HY.out _ HBS.out
    have z0 := HZ.out _ HBS.out
    by_cases hkl : k < m
    ·have hkI : (k : Int) < (m : Int) := by omega
     have hk0 : (0 : Int) ≤ (k : Int) := by omega
     have HKL := Lib.hid hkl
     obtain ⟨lad, rfl, _, y1⟩ := (HI1.out _ HBS.out).at_ hkl
     obtain ⟨lad2, rfl, _, z1⟩ := (HI2.out _ HBS.out).at_ hkl
     go_wp2_with fail
     refine wp_region_noPanic ?_
     refine wp_region_held_drew (S := fun W => W.cell? (ad.add a) = some (.slice (some lad) m c') ∧ W.cell? (ad2.add a) = some (.slice (some lad2) m d') ∧ W.cell? (lad.add k) = some (.int .i64 (l.getD k 0)) ∧ W.cell? (lad2.add k) = some (.int .i64 (l.getD k 0))) (by kernel_rfl) (⟨y0, z0, y1, z1⟩) (fun hHeld => ?_)
     refine tkZ 0 rfl hHeld ?_
     try simp only [Act.put, nmZ]
     refine tkZ 1 rfl hHeld ?_
     try simp only [Act.put, nmZ]
     refine tkZ 2 rfl hHeld ?_
     try simp only [Act.put, nmZ]
     refine tkZ 3 rfl hHeld ?_
     try simp only [Act.put, nmZ]
     refine tkZ 4 rfl hHeld ?_
     try simp only [Act.put, nmZ]
     refine tkZ 5 rfl hHeld ?_
     try simp only [Act.put, nmZ]
     refine tkZ 6 rfl hHeld ?_
     try simp only [Act.put, nmZ]
     refine tkZ 7 rfl hHeld ?_
     try simp only [Act.put, nmZ]
     refine tkZ 8 rfl hHeld ?_
     try simp only [Act.put, nmZ]
     refine tkZ 9 rfl hHeld ?_
     try simp only [Act.put, nmZ]
     refine tkZ 10 rfl hHeld ?_
     try simp only [Act.put, nmZ]
     refine tkZ 11 rfl hHeld ?_
     try simp only [Act.put, nmZ]
     refine tkZ 12 rfl hHeld ?_
     try simp only [Act.put, nmZ]
     refine tkZ 13 rfl hHeld ?_
     try simp only [Act.put, nmZ]
     refine tkZ 14 rfl hHeld ?_
     try simp only [Act.put, nmZ]
     refine wpAnyH_done (by kernel_rfl) ?_ _
     refine NoPanic.normal ?_
     clear hHeld y0 z0 y1 z1
     go_wp2_with fail
     go_roundw
     case rel => exact ⟨k + 1, by have := HKL.out; omega, by go_num, Lib.hid HBS.out.drew⟩
     case measure => have := HKL.out; simp [intOf]; omega
    ·obtain rfl : m = k := by omega
     go_wp2_with fail
     go_roundw
     case rel => exact ⟨a + 1, by have := HLT.out; omega, by go_num, Lib.hid (to_ HBW.out HBS.out)⟩
     case measure => have := HLT.out; simp [intOf]; omega
  ·obtain rfl : n = a := by omega
   go_wp2_with fail
   go_ret
   exact ⟨rfl, HBW.out⟩
end Go.Proofs.YtnenmgefgdpkdaaGreat.Bo
