/-
  WALK of layer 8: the document's own Put.
-/
import Derived.Test.YtieacapdfeljfaaDoorIf
import Derived.Test.YtieacapdfeljfaaDoorRp
namespace Go.Proofs.YtieacapdfeljfaaDoor.By
open Go.ChangeShapes Go.WideShapes Go.ChangeAt Go.RowKit
open Mem

set_option maxHeartbeats 4000000 in
theorem riput_any (v : Value) (l : List UInt8) (o a b c n : Int) (w : World) (h : SlV w w.heap.size v (u8s l)) (hl : l.length ≤ 1099511627) :
    Calls Tryd.prog 25 #[v, .agg #[.int .i64 o, .int .i64 a, .int .i64 b, .int .i64 c, .int .i64 n]] w (Owns w (u8s (l ++ insB o a b c n))) := by
  have B0 := Lib.hid ((Below.refl w.heap.size w).alloc (Nat.le_refl _) (.cells (insC o a b c n) 29))
  have H0 := Lib.hid (Blk.at_ (w := w) 29 (insC o a b c n) rfl)
  have V0 : Hid (SlV (w.alloc (.cells (insC o a b c n) 29)) (w.alloc (.cells (insC o a b c n) 29)).heap.size v (u8s l)) := Lib.hid ((h.below B0.out).more (by simp))
  have hE : insB o a b c n = putB o 1 ++ putB a 1 ++ putB b 1 ++ putB c 1 ++ putB n 4 := rfl
  have g0 := putB_length o 1
  have g1 := putB_length a 1
  have g2 := putB_length b 1
  have g3 := putB_length c 1
  rw [hE, ← List.append_assoc, ← List.append_assoc, ← List.append_assoc, ← List.append_assoc]
  clear hE h
  obtain ⟨l0, h0⟩ : ∃ x, x = l ++ putB o 1 := ⟨_, rfl⟩
  rw [← h0]
  obtain ⟨l1, h1⟩ : ∃ x, x = l0 ++ putB a 1 := ⟨_, rfl⟩
  rw [← h1]
  obtain ⟨l2, h2⟩ : ∃ x, x = l1 ++ putB b 1 := ⟨_, rfl⟩
  rw [← h2]
  obtain ⟨l3, h3⟩ : ∃ x, x = l2 ++ putB c 1 := ⟨_, rfl⟩
  rw [← h3]
  obtain ⟨l4, h4⟩ : ∃ x, x = l3 ++ putB n 4 := ⟨_, rfl⟩
  rw [← h4]
  have f0 : l0.length ≤ 1099511627 + 8 := by rw [h0, List.length_append]; omega
  have f1 : l1.length ≤ 1099511627 + 16 := by rw [h1, List.length_append]; omega
  have f2 : l2.length ≤ 1099511627 + 24 := by rw [h2, List.length_append]; omega
  have f3 : l3.length ≤ 1099511627 + 32 := by rw [h3, List.length_append]; omega
  have P0 := Lib.hid (fun v (w : World) h => rput_any v (u8s l) o 1 w h (u8s_one _) (by rw [u8s_length]; omega))
  have P1 := Lib.hid (fun v (w : World) h => rput_any v (u8s l0) a 1 w h (u8s_one _) (by rw [u8s_length]; omega))
  have P2 := Lib.hid (fun v (w : World) h => rput_any v (u8s l1) b 1 w h (u8s_one _) (by rw [u8s_length]; omega))
  have P3 := Lib.hid (fun v (w : World) h => rput_any v (u8s l2) c 1 w h (u8s_one _) (by rw [u8s_length]; omega))
  have P4 := Lib.hid (fun v (w : World) h => rput_any v (u8s l3) n 4 w h (u8s_one _) (by rw [u8s_length]; omega))
  rw [← u8s_append, ← h0] at P0
  rw [← u8s_append, ← h1] at P1
  rw [← u8s_append, ← h2] at P2
  rw [← u8s_append, ← h3] at P3
  rw [← u8s_append, ← h4] at P4
  unfold insC at V0
  clear f0 f1 f2 f3 h0 h1 h2 h3 h4 g0 g1 g2 g3 hl
  go_enter Tryd.func25, Tryd.ntmps25
  go_wp2_with fail
  refine (P0.out _ _ V0.out).mono ?_
  rintro e w1 ⟨v1, rfl, hown, hb⟩
  have hs1 := hb.size
  have V1 := Lib.hid (SlV.of_own hown)
  have B1 := Lib.hid (B0.out.trans (hb.mono (by simp)))
  have s1 : w.heap.size + 1 ≤ w1.heap.size := by simpa using hs1
  have H1 := Lib.hid (H0.out.below hb (by simp))
  have k1 : w1.cell? ⟨w.heap.size, 1, none⟩ = some (.int .i64 a) := by rw [H1.out.cell]; rfl
  have z1 : w.heap.size < w1.heap.size := by omega
  clear hown hb V0 B0 H0
  go_wp2_with fail
  refine (P1.out _ _ V1.out).mono ?_
  rintro e w2 ⟨v2, rfl, hown, hb⟩
  have hs2 := hb.size
  have V2 := Lib.hid (SlV.of_own hown)
  have B2 := Lib.hid (B1.out.trans (hb.mono (by omega)))
  have s2 : w.heap.size + 1 ≤ w2.heap.size := by omega
  have H2 := Lib.hid (H1.out.below hb (by omega))
  have k2 : w2.cell? ⟨w.heap.size, 2, none⟩ = some (.int .i64 b) := by rw [H2.out.cell]; rfl
  have z2 : w.heap.size < w2.heap.size := by omega
  clear hown hb V1 B1 H1
  go_wp2_with fail
  refine (P2.out _ _ V2.out).mono ?_
  rintro e w3 ⟨v3, rfl, hown, hb⟩
  have hs3 := hb.size
  have V3 := Lib.hid (SlV.of_own hown)
  have B3 := Lib.hid (B2.out.trans (hb.mono (by omega)))
  have s3 : w.heap.size + 1 ≤ w3.heap.size := by omega
  have H3 := Lib.hid (H2.out.below hb (by omega))
  have k3 : w3.cell? ⟨w.heap.size, 3, none⟩ = some (.int .i64 c) := by rw [H3.out.cell]; rfl
  have z3 : w.heap.size < w3.heap.size := by omega
  clear hown hb V2 B2 H2
  go_wp2_with fail
  refine (P3.out _ _ V3.out).mono ?_
  rintro e w4 ⟨v4, rfl, hown, hb⟩
  have hs4 := hb.size
  have V4 := Lib.hid (SlV.of_own hown)
  have B4 := Lib.hid (B3.out.trans (hb.mono (by omega)))
  have s4 : w.heap.size + 1 ≤ w4.heap.size := by omega
  have H4 := Lib.hid (H3.out.below hb (by omega))
  have k4 : w4.cell? ⟨w.heap.size, 4, none⟩ = some (.int .i64 n) := by rw [H4.out.cell]; rfl
  have z4 : w.heap.size < w4.heap.size := by omega
  clear hown hb V3 B3 H3
  go_wp2_with fail
  refine (P4.out _ _ V4.out).mono ?_
  rintro e w5 ⟨v5, rfl, hown, hb⟩
  have hs5 := hb.size
  have V5 := Lib.hid (SlV.of_own hown)
  have B5 := Lib.hid (B4.out.trans (hb.mono (by omega)))
  have OWN := Lib.hid (own_base hown (show w.heap.size ≤ w4.heap.size by omega))
  clear hown hb V4 B4
  go_wp2_with fail
  go_ret
  exact ⟨v5, rfl, OWN.out, B5.out⟩
end Go.Proofs.YtieacapdfeljfaaDoor.By
