/-
  WALKS of layer 17: an operand by its letter.
-/
import Derived.Test.YtbknmapkdjmcjaaGreatDoorTc
import Derived.Laws.EntriesVeiled
namespace Go.Proofs.YtbknmapkdjmcjaaGreatDoor.By
open Go.RowKit
open Mem Gm Rf
set_option linter.unusedSimpArgs false
set_option linter.unusedVariables false

theorem rules_any (w : World) : Calls Tryz.prog 232 #[] w fun e w' => e = .returned (.slice (some ⟨w.heap.size, 0, none⟩) 7 7) ∧ w' = w.alloc (.cells #[.int .i32 119, .func (.func 282) #[] #[], .int .i32 114, .func (.func 282) #[] #[], .int .i32 103, .func (.func 283) #[] #[], .int .i32 102, .func (.func 283) #[] #[], .int .i32 99, .func (.func 284) #[] #[], .int .i32 100, .func (.func 285) #[] #[], .int .i32 118, .func (.func 286) #[] #[]] 246) := by
  go_enter Tryz.func232, Tryz.ntmps232
  go_wp2
  go_ret
  exact ⟨rfl, rfl⟩
theorem blk14 {w : World} {g : Nat} {t : TypeId} {x0 x1 x2 x3 x4 x5 x6 x7 x8 x9 x10 x11 x12 x13 : Value} (h : Blk w g t #[x0, x1, x2, x3, x4, x5, x6, x7, x8, x9, x10, x11, x12, x13]) : w.cell? ⟨g, 0, none⟩ = some x0 ∧ w.cell? ⟨g, 1, none⟩ = some x1 ∧ w.cell? ⟨g, 2, none⟩ = some x2 ∧ w.cell? ⟨g, 3, none⟩ = some x3 ∧ w.cell? ⟨g, 4, none⟩ = some x4 ∧ w.cell? ⟨g, 5, none⟩ = some x5 ∧ w.cell? ⟨g, 6, none⟩ = some x6 ∧ w.cell? ⟨g, 7, none⟩ = some x7 ∧ w.cell? ⟨g, 8, none⟩ = some x8 ∧ w.cell? ⟨g, 9, none⟩ = some x9 ∧ w.cell? ⟨g, 10, none⟩ = some x10 ∧ w.cell? ⟨g, 11, none⟩ = some x11 ∧ w.cell? ⟨g, 12, none⟩ = some x12 ∧ w.cell? ⟨g, 13, none⟩ = some x13 :=
  ⟨h.cell 0, h.cell 1, h.cell 2, h.cell 3, h.cell 4, h.cell 5, h.cell 6, h.cell 7, h.cell 8, h.cell 9, h.cell 10, h.cell 11, h.cell 12, h.cell 13⟩
set_option maxHeartbeats 8000000 in
theorem lt0_any (own o a b c n : Int) (nm : ByteArray) (loc : Bool) (so kd df : Int) (AK : Option Addr) (nK cK : Nat) (w : World) (h1 : -9223372036854775808 ≤ kd) (h2 : kd ≤ 9223372036854775807) (ks : List Int) (hk : IW w (.slice AK nK cK) ks) (hl : ks.length = nK) (hm : nK ≤ 1000000) (i : Int) : Calls Tryz.prog 168 #[.agg #[.slice AK nK cK, .int .i64 own, .int .i64 o, .int .i64 a, .int .i64 b, .int .i64 c, .int .i64 n, .string nm, .bool loc, .int .i64 so, .int .i64 kd, .int .i64 df], .int .i32 119, .int .i64 i] w fun e w' => e = .returned (.int .i64 (slE ks i 0)) ∧ Below w.heap.size w w' := by
  obtain ⟨W1, hW1⟩ : ∃ W1, w.alloc (.cells #[.slice AK nK cK, .int .i64 own, .int .i64 o, .int .i64 a, .int .i64 b, .int .i64 c, .int .i64 n, .string nm, .bool loc, .int .i64 so, .int .i64 kd, .int .i64 df] 123) = W1 := ⟨_, rfl⟩
  have HB1 := Lib.hid (show Below w.heap.size w W1 from by rw [← hW1]; exact alloc_ _ _)
  have HX := Lib.hid (show Blk W1 w.heap.size 123 #[.slice AK nK cK, .int .i64 own, .int .i64 o, .int .i64 a, .int .i64 b, .int .i64 c, .int .i64 n, .string nm, .bool loc, .int .i64 so, .int .i64 kd, .int .i64 df] from by rw [← hW1]; exact Blk.new w _ _)
  obtain ⟨x0, x1, x2, x3, x4, x5, x6, x7, x8, x9, x10, x11⟩ := blk12 HX.out
  have HS := Lib.hid (fun W (hb : Below W1.heap.size W1 W) => nb_any own o a b c n nm loc so kd df AK nK cK W ks (hk.on (to_ HB1.out hb)) hl hm i)
  generalize slE ks i 0 = z at HS ⊢
  obtain ⟨W2, hW2⟩ : ∃ W2, W1.alloc (.cells #[.int .i32 119, .func (.func 282) #[] #[], .int .i32 114, .func (.func 282) #[] #[], .int .i32 103, .func (.func 283) #[] #[], .int .i32 102, .func (.func 283) #[] #[], .int .i32 99, .func (.func 284) #[] #[], .int .i32 100, .func (.func 285) #[] #[], .int .i32 118, .func (.func 286) #[] #[]] 246) = W2 := ⟨_, rfl⟩
  have HB2 := Lib.hid (show Below W1.heap.size W1 W2 from by rw [← hW2]; exact alloc_ _ _)
  obtain ⟨r0, r1, r2, r3, r4, r5, r6, r7, r8, r9, r10, r11, r12, r13⟩ := blk14 (show Blk W2 W1.heap.size 246 #[.int .i32 119, .func (.func 282) #[] #[], .int .i32 114, .func (.func 282) #[] #[], .int .i32 103, .func (.func 283) #[] #[], .int .i32 102, .func (.func 283) #[] #[], .int .i32 99, .func (.func 284) #[] #[], .int .i32 100, .func (.func 285) #[] #[], .int .i32 118, .func (.func 286) #[] #[]] from by rw [← hW2]; exact Blk.new W1 _ _)
  have HRR := Lib.hid (show Blk W2 W1.heap.size 246 #[.int .i32 119, .func (.func 282) #[] #[], .int .i32 114, .func (.func 282) #[] #[], .int .i32 103, .func (.func 283) #[] #[], .int .i32 102, .func (.func 283) #[] #[], .int .i32 99, .func (.func 284) #[] #[], .int .i32 100, .func (.func 285) #[] #[], .int .i32 118, .func (.func 286) #[] #[]] from by rw [← hW2]; exact Blk.new W1 _ _)
  have HRU := Lib.hid (show Calls Tryz.prog 232 #[] W1 fun e w' => e = .returned (.slice (some ⟨W1.heap.size, 0, none⟩) 7 7) ∧ w' = W2 from by rw [← hW2]; exact rules_any W1)
  clear hk hl h1 h2
  go_enter Tryz.func168, Tryz.ntmps168
  go_wp2_with fail
  clear hW1 hW2 x0 x1 x2 x3 x4 x5 x6 x7 x8 x9 x10 x11 r0 r1 r2 r3 r4 r5 r6 r7 r8 r9 r10 r11 r12 r13
  refine HRU.out.mono ?_
  rintro e v0 ⟨rfl, rfl⟩
  go_wp2_with fail
  refine wp_loop_rounds 2 ?_
  have HV0 := Lib.hid HB2.out
  have HR0 := Lib.hid (show Blk v0 W1.heap.size 246 #[.int .i32 119, .func (.func 282) #[] #[], .int .i32 114, .func (.func 282) #[] #[], .int .i32 103, .func (.func 283) #[] #[], .int .i32 102, .func (.func 283) #[] #[], .int .i32 99, .func (.func 284) #[] #[], .int .i32 100, .func (.func 285) #[] #[], .int .i32 118, .func (.func 286) #[] #[]] from HRR.out)
  obtain ⟨v1, hv1⟩ : ∃ v, v0.alloc (.cells #[.int .i32 119, .func (.func 282) #[] #[]] 246) = v := ⟨_, rfl⟩
  obtain ⟨r0, r1, r2, r3, r4, r5, r6, r7, r8, r9, r10, r11, r12, r13⟩ := blk14 HR0.out
  have HN1 := Lib.hid (show Blk v1 v0.heap.size 246 #[.int .i32 119, .func (.func 282) #[] #[]] from by rw [← hv1]; exact Blk.new v0 _ _)
  have n0 : v1.cell? ⟨v0.heap.size, 0, none⟩ = some (.int .i32 119) := HN1.out.cell 0
  have n1 : v1.cell? ⟨v0.heap.size, 1, none⟩ = some (.func (.func 282) #[] #[]) := HN1.out.cell 1
  have hb : Below v0.heap.size v0 v1 := by rw [← hv1]; exact alloc_ _ _
  have HV1 := Lib.hid (to_ HV0.out hb)
  have HR1 := Lib.hid (HR0.out.below hb HR0.out.lt)
  clear hb
  obtain ⟨x0, x1, x2, x3, x4, x5, x6, x7, x8, x9, x10, x11⟩ := blk12 (HX.out.below HV1.out HX.out.lt)
  rw [rounds_succ]
  go_wp2_with fail
  clear hv1 r0 r1 r2 r3 r4 r5 r6 r7 r8 r9 r10 r11 r12 r13 n0 n1 x0 x1 x2 x3 x4 x5 x6 x7 x8 x9 x10 x11
  refine (HS.out _ HV1.out).mono ?_
  rintro e w9 ⟨rfl, b9⟩
  have HB9 := Lib.hid (to_ HB1.out (to_ HV1.out b9))
  clear b9
  go_wp2_with fail
  go_ret
  exact ⟨rfl, HB9.out⟩
set_option maxHeartbeats 8000000 in
theorem lt1_any (own o a b c n : Int) (nm : ByteArray) (loc : Bool) (so kd df : Int) (AK : Option Addr) (nK cK : Nat) (w : World) (h1 : -9223372036854775808 ≤ kd) (h2 : kd ≤ 9223372036854775807) (ks : List Int) (hk : IW w (.slice AK nK cK) ks) (hl : ks.length = nK) (hm : nK ≤ 1000000) (i : Int) : Calls Tryz.prog 168 #[.agg #[.slice AK nK cK, .int .i64 own, .int .i64 o, .int .i64 a, .int .i64 b, .int .i64 c, .int .i64 n, .string nm, .bool loc, .int .i64 so, .int .i64 kd, .int .i64 df], .int .i32 114, .int .i64 i] w fun e w' => e = .returned (.int .i64 (slE ks i 0)) ∧ Below w.heap.size w w' := by
  obtain ⟨W1, hW1⟩ : ∃ W1, w.alloc (.cells #[.slice AK nK cK, .int .i64 own, .int .i64 o, .int .i64 a, .int .i64 b, .int .i64 c, .int .i64 n, .string nm, .bool loc, .int .i64 so, .int .i64 kd, .int .i64 df] 123) = W1 := ⟨_, rfl⟩
  have HB1 := Lib.hid (show Below w.heap.size w W1 from by rw [← hW1]; exact alloc_ _ _)
  have HX := Lib.hid (show Blk W1 w.heap.size 123 #[.slice AK nK cK, .int .i64 own, .int .i64 o, .int .i64 a, .int .i64 b, .int .i64 c, .int .i64 n, .string nm, .bool loc, .int .i64 so, .int .i64 kd, .int .i64 df] from by rw [← hW1]; exact Blk.new w _ _)
  obtain ⟨x0, x1, x2, x3, x4, x5, x6, x7, x8, x9, x10, x11⟩ := blk12 HX.out
  have HS := Lib.hid (fun W (hb : Below W1.heap.size W1 W) => nb_any own o a b c n nm loc so kd df AK nK cK W ks (hk.on (to_ HB1.out hb)) hl hm i)
  generalize slE ks i 0 = z at HS ⊢
  obtain ⟨W2, hW2⟩ : ∃ W2, W1.alloc (.cells #[.int .i32 119, .func (.func 282) #[] #[], .int .i32 114, .func (.func 282) #[] #[], .int .i32 103, .func (.func 283) #[] #[], .int .i32 102, .func (.func 283) #[] #[], .int .i32 99, .func (.func 284) #[] #[], .int .i32 100, .func (.func 285) #[] #[], .int .i32 118, .func (.func 286) #[] #[]] 246) = W2 := ⟨_, rfl⟩
  have HB2 := Lib.hid (show Below W1.heap.size W1 W2 from by rw [← hW2]; exact alloc_ _ _)
  obtain ⟨r0, r1, r2, r3, r4, r5, r6, r7, r8, r9, r10, r11, r12, r13⟩ := blk14 (show Blk W2 W1.heap.size 246 #[.int .i32 119, .func (.func 282) #[] #[], .int .i32 114, .func (.func 282) #[] #[], .int .i32 103, .func (.func 283) #[] #[], .int .i32 102, .func (.func 283) #[] #[], .int .i32 99, .func (.func 284) #[] #[], .int .i32 100, .func (.func 285) #[] #[], .int .i32 118, .func (.func 286) #[] #[]] from by rw [← hW2]; exact Blk.new W1 _ _)
  have HRR := Lib.hid (show Blk W2 W1.heap.size 246 #[.int .i32 119, .func (.func 282) #[] #[], .int .i32 114, .func (.func 282) #[] #[], .int .i32 103, .func (.func 283) #[] #[], .int .i32 102, .func (.func 283) #[] #[], .int .i32 99, .func (.func 284) #[] #[], .int .i32 100, .func (.func 285) #[] #[], .int .i32 118, .func (.func 286) #[] #[]] from by rw [← hW2]; exact Blk.new W1 _ _)
  have HRU := Lib.hid (show Calls Tryz.prog 232 #[] W1 fun e w' => e = .returned (.slice (some ⟨W1.heap.size, 0, none⟩) 7 7) ∧ w' = W2 from by rw [← hW2]; exact rules_any W1)
  clear hk hl h1 h2
  go_enter Tryz.func168, Tryz.ntmps168
  go_wp2_with fail
  clear hW1 hW2 x0 x1 x2 x3 x4 x5 x6 x7 x8 x9 x10 x11 r0 r1 r2 r3 r4 r5 r6 r7 r8 r9 r10 r11 r12 r13
  refine HRU.out.mono ?_
  rintro e v0 ⟨rfl, rfl⟩
  go_wp2_with fail
  refine wp_loop_rounds 3 ?_
  have HV0 := Lib.hid HB2.out
  have HR0 := Lib.hid (show Blk v0 W1.heap.size 246 #[.int .i32 119, .func (.func 282) #[] #[], .int .i32 114, .func (.func 282) #[] #[], .int .i32 103, .func (.func 283) #[] #[], .int .i32 102, .func (.func 283) #[] #[], .int .i32 99, .func (.func 284) #[] #[], .int .i32 100, .func (.func 285) #[] #[], .int .i32 118, .func (.func 286) #[] #[]] from HRR.out)
  obtain ⟨v1, hv1⟩ : ∃ v, v0.alloc (.cells #[.int .i32 119, .func (.func 282) #[] #[]] 246) = v := ⟨_, rfl⟩
  obtain ⟨r0, r1, r2, r3, r4, r5, r6, r7, r8, r9, r10, r11, r12, r13⟩ := blk14 HR0.out
  have HN1 := Lib.hid (show Blk v1 v0.heap.size 246 #[.int .i32 119, .func (.func 282) #[] #[]] from by rw [← hv1]; exact Blk.new v0 _ _)
  have n0 : v1.cell? ⟨v0.heap.size, 0, none⟩ = some (.int .i32 119) := HN1.out.cell 0
  have n1 : v1.cell? ⟨v0.heap.size, 1, none⟩ = some (.func (.func 282) #[] #[]) := HN1.out.cell 1
  have hb : Below v0.heap.size v0 v1 := by rw [← hv1]; exact alloc_ _ _
  have HV1 := Lib.hid (to_ HV0.out hb)
  have HR1 := Lib.hid (HR0.out.below hb HR0.out.lt)
  clear hb
  obtain ⟨x0, x1, x2, x3, x4, x5, x6, x7, x8, x9, x10, x11⟩ := blk12 (HX.out.below HV1.out HX.out.lt)
  rw [rounds_succ]
  go_wp2_with fail
  clear hv1 r0 r1 r2 r3 r4 r5 r6 r7 r8 r9 r10 r11 r12 r13 n0 n1 x0 x1 x2 x3 x4 x5 x6 x7 x8 x9 x10 x11
  obtain ⟨v2, hv2⟩ : ∃ v, v1.alloc (.cells #[.int .i32 114, .func (.func 282) #[] #[]] 246) = v := ⟨_, rfl⟩
  obtain ⟨r0, r1, r2, r3, r4, r5, r6, r7, r8, r9, r10, r11, r12, r13⟩ := blk14 HR1.out
  have HN2 := Lib.hid (show Blk v2 v1.heap.size 246 #[.int .i32 114, .func (.func 282) #[] #[]] from by rw [← hv2]; exact Blk.new v1 _ _)
  have n0 : v2.cell? ⟨v1.heap.size, 0, none⟩ = some (.int .i32 114) := HN2.out.cell 0
  have n1 : v2.cell? ⟨v1.heap.size, 1, none⟩ = some (.func (.func 282) #[] #[]) := HN2.out.cell 1
  have hb : Below v1.heap.size v1 v2 := by rw [← hv2]; exact alloc_ _ _
  have HV2 := Lib.hid (to_ HV1.out hb)
  have HR2 := Lib.hid (HR1.out.below hb HR1.out.lt)
  clear hb
  obtain ⟨x0, x1, x2, x3, x4, x5, x6, x7, x8, x9, x10, x11⟩ := blk12 (HX.out.below HV2.out HX.out.lt)
  rw [rounds_succ]
  go_wp2_with fail
  clear hv2 r0 r1 r2 r3 r4 r5 r6 r7 r8 r9 r10 r11 r12 r13 n0 n1 x0 x1 x2 x3 x4 x5 x6 x7 x8 x9 x10 x11
  refine (HS.out _ HV2.out).mono ?_
  rintro e w9 ⟨rfl, b9⟩
  have HB9 := Lib.hid (to_ HB1.out (to_ HV2.out b9))
  clear b9
  go_wp2_with fail
  go_ret
  exact ⟨rfl, HB9.out⟩
set_option maxHeartbeats 8000000 in
theorem lt2_any (own o a b c n : Int) (nm : ByteArray) (loc : Bool) (so kd df : Int) (AK : Option Addr) (nK cK : Nat) (w : World) (h1 : -9223372036854775808 ≤ kd) (h2 : kd ≤ 9223372036854775807) (ks : List Int) (hk : IW w (.slice AK nK cK) ks) (hl : ks.length = nK) (hm : nK ≤ 1000000) (i : Int) : Calls Tryz.prog 168 #[.agg #[.slice AK nK cK, .int .i64 own, .int .i64 o, .int .i64 a, .int .i64 b, .int .i64 c, .int .i64 n, .string nm, .bool loc, .int .i64 so, .int .i64 kd, .int .i64 df], .int .i32 103, .int .i64 i] w fun e w' => e = .returned (.int .i64 (slE ks i (wrap64 (1 + clsV o c kd)))) ∧ Below w.heap.size w w' := by
  obtain ⟨W1, hW1⟩ : ∃ W1, w.alloc (.cells #[.slice AK nK cK, .int .i64 own, .int .i64 o, .int .i64 a, .int .i64 b, .int .i64 c, .int .i64 n, .string nm, .bool loc, .int .i64 so, .int .i64 kd, .int .i64 df] 123) = W1 := ⟨_, rfl⟩
  have HB1 := Lib.hid (show Below w.heap.size w W1 from by rw [← hW1]; exact alloc_ _ _)
  have HX := Lib.hid (show Blk W1 w.heap.size 123 #[.slice AK nK cK, .int .i64 own, .int .i64 o, .int .i64 a, .int .i64 b, .int .i64 c, .int .i64 n, .string nm, .bool loc, .int .i64 so, .int .i64 kd, .int .i64 df] from by rw [← hW1]; exact Blk.new w _ _)
  obtain ⟨x0, x1, x2, x3, x4, x5, x6, x7, x8, x9, x10, x11⟩ := blk12 HX.out
  have HS := Lib.hid (fun W (hb : Below W1.heap.size W1 W) => fc_any own o a b c n nm loc so kd df AK nK cK W h1 h2 ks (hk.on (to_ HB1.out hb)) hl hm i)
  generalize slE ks i (wrap64 (1 + clsV o c kd)) = z at HS ⊢
  obtain ⟨W2, hW2⟩ : ∃ W2, W1.alloc (.cells #[.int .i32 119, .func (.func 282) #[] #[], .int .i32 114, .func (.func 282) #[] #[], .int .i32 103, .func (.func 283) #[] #[], .int .i32 102, .func (.func 283) #[] #[], .int .i32 99, .func (.func 284) #[] #[], .int .i32 100, .func (.func 285) #[] #[], .int .i32 118, .func (.func 286) #[] #[]] 246) = W2 := ⟨_, rfl⟩
  have HB2 := Lib.hid (show Below W1.heap.size W1 W2 from by rw [← hW2]; exact alloc_ _ _)
  obtain ⟨r0, r1, r2, r3, r4, r5, r6, r7, r8, r9, r10, r11, r12, r13⟩ := blk14 (show Blk W2 W1.heap.size 246 #[.int .i32 119, .func (.func 282) #[] #[], .int .i32 114, .func (.func 282) #[] #[], .int .i32 103, .func (.func 283) #[] #[], .int .i32 102, .func (.func 283) #[] #[], .int .i32 99, .func (.func 284) #[] #[], .int .i32 100, .func (.func 285) #[] #[], .int .i32 118, .func (.func 286) #[] #[]] from by rw [← hW2]; exact Blk.new W1 _ _)
  have HRR := Lib.hid (show Blk W2 W1.heap.size 246 #[.int .i32 119, .func (.func 282) #[] #[], .int .i32 114, .func (.func 282) #[] #[], .int .i32 103, .func (.func 283) #[] #[], .int .i32 102, .func (.func 283) #[] #[], .int .i32 99, .func (.func 284) #[] #[], .int .i32 100, .func (.func 285) #[] #[], .int .i32 118, .func (.func 286) #[] #[]] from by rw [← hW2]; exact Blk.new W1 _ _)
  have HRU := Lib.hid (show Calls Tryz.prog 232 #[] W1 fun e w' => e = .returned (.slice (some ⟨W1.heap.size, 0, none⟩) 7 7) ∧ w' = W2 from by rw [← hW2]; exact rules_any W1)
  clear hk hl h1 h2
  go_enter Tryz.func168, Tryz.ntmps168
  go_wp2_with fail
  clear hW1 hW2 x0 x1 x2 x3 x4 x5 x6 x7 x8 x9 x10 x11 r0 r1 r2 r3 r4 r5 r6 r7 r8 r9 r10 r11 r12 r13
  refine HRU.out.mono ?_
  rintro e v0 ⟨rfl, rfl⟩
  go_wp2_with fail
  refine wp_loop_rounds 4 ?_
  have HV0 := Lib.hid HB2.out
  have HR0 := Lib.hid (show Blk v0 W1.heap.size 246 #[.int .i32 119, .func (.func 282) #[] #[], .int .i32 114, .func (.func 282) #[] #[], .int .i32 103, .func (.func 283) #[] #[], .int .i32 102, .func (.func 283) #[] #[], .int .i32 99, .func (.func 284) #[] #[], .int .i32 100, .func (.func 285) #[] #[], .int .i32 118, .func (.func 286) #[] #[]] from HRR.out)
  obtain ⟨v1, hv1⟩ : ∃ v, v0.alloc (.cells #[.int .i32 119, .func (.func 282) #[] #[]] 246) = v := ⟨_, rfl⟩
  obtain ⟨r0, r1, r2, r3, r4, r5, r6, r7, r8, r9, r10, r11, r12, r13⟩ := blk14 HR0.out
  have HN1 := Lib.hid (show Blk v1 v0.heap.size 246 #[.int .i32 119, .func (.func 282) #[] #[]] from by rw [← hv1]; exact Blk.new v0 _ _)
  have n0 : v1.cell? ⟨v0.heap.size, 0, none⟩ = some (.int .i32 119) := HN1.out.cell 0
  have n1 : v1.cell? ⟨v0.heap.size, 1, none⟩ = some (.func (.func 282) #[] #[]) := HN1.out.cell 1
  have hb : Below v0.heap.size v0 v1 := by rw [← hv1]; exact alloc_ _ _
  have HV1 := Lib.hid (to_ HV0.out hb)
  have HR1 := Lib.hid (HR0.out.below hb HR0.out.lt)
  clear hb
  obtain ⟨x0, x1, x2, x3, x4, x5, x6, x7, x8, x9, x10, x11⟩ := blk12 (HX.out.below HV1.out HX.out.lt)
  rw [rounds_succ]
  go_wp2_with fail
  clear hv1 r0 r1 r2 r3 r4 r5 r6 r7 r8 r9 r10 r11 r12 r13 n0 n1 x0 x1 x2 x3 x4 x5 x6 x7 x8 x9 x10 x11
  obtain ⟨v2, hv2⟩ : ∃ v, v1.alloc (.cells #[.int .i32 114, .func (.func 282) #[] #[]] 246) = v := ⟨_, rfl⟩
  obtain ⟨r0, r1, r2, r3, r4, r5, r6, r7, r8, r9, r10, r11, r12, r13⟩ := blk14 HR1.out
  have HN2 := Lib.hid (show Blk v2 v1.heap.size 246 #[.int .i32 114, .func (.func 282) #[] #[]] from by rw [← hv2]; exact Blk.new v1 _ _)
  have n0 : v2.cell? ⟨v1.heap.size, 0, none⟩ = some (.int .i32 114) := HN2.out.cell 0
  have n1 : v2.cell? ⟨v1.heap.size, 1, none⟩ = some (.func (.func 282) #[] #[]) := HN2.out.cell 1
  have hb : Below v1.heap.size v1 v2 := by rw [← hv2]; exact alloc_ _ _
  have HV2 := Lib.hid (to_ HV1.out hb)
  have HR2 := Lib.hid (HR1.out.below hb HR1.out.lt)
  clear hb
  obtain ⟨x0, x1, x2, x3, x4, x5, x6, x7, x8, x9, x10, x11⟩ := blk12 (HX.out.below HV2.out HX.out.lt)
  rw [rounds_succ]
  go_wp2_with fail
  clear hv2 r0 r1 r2 r3 r4 r5 r6 r7 r8 r9 r10 r11 r12 r13 n0 n1 x0 x1 x2 x3 x4 x5 x6 x7 x8 x9 x10 x11
  obtain ⟨v3, hv3⟩ : ∃ v, v2.alloc (.cells #[.int .i32 103, .func (.func 283) #[] #[]] 246) = v := ⟨_, rfl⟩
  obtain ⟨r0, r1, r2, r3, r4, r5, r6, r7, r8, r9, r10, r11, r12, r13⟩ := blk14 HR2.out
  have HN3 := Lib.hid (show Blk v3 v2.heap.size 246 #[.int .i32 103, .func (.func 283) #[] #[]] from by rw [← hv3]; exact Blk.new v2 _ _)
  have n0 : v3.cell? ⟨v2.heap.size, 0, none⟩ = some (.int .i32 103) := HN3.out.cell 0
  have n1 : v3.cell? ⟨v2.heap.size, 1, none⟩ = some (.func (.func 283) #[] #[]) := HN3.out.cell 1
  have hb : Below v2.heap.size v2 v3 := by rw [← hv3]; exact alloc_ _ _
  have HV3 := Lib.hid (to_ HV2.out hb)
  have HR3 := Lib.hid (HR2.out.below hb HR2.out.lt)
  clear hb
  obtain ⟨x0, x1, x2, x3, x4, x5, x6, x7, x8, x9, x10, x11⟩ := blk12 (HX.out.below HV3.out HX.out.lt)
  rw [rounds_succ]
  go_wp2_with fail
  clear hv3 r0 r1 r2 r3 r4 r5 r6 r7 r8 r9 r10 r11 r12 r13 n0 n1 x0 x1 x2 x3 x4 x5 x6 x7 x8 x9 x10 x11
  refine (HS.out _ HV3.out).mono ?_
  rintro e w9 ⟨rfl, b9⟩
  have HB9 := Lib.hid (to_ HB1.out (to_ HV3.out b9))
  clear b9
  go_wp2_with fail
  go_ret
  exact ⟨rfl, HB9.out⟩
set_option maxHeartbeats 8000000 in
theorem lt3_any (own o a b c n : Int) (nm : ByteArray) (loc : Bool) (so kd df : Int) (AK : Option Addr) (nK cK : Nat) (w : World) (h1 : -9223372036854775808 ≤ kd) (h2 : kd ≤ 9223372036854775807) (ks : List Int) (hk : IW w (.slice AK nK cK) ks) (hl : ks.length = nK) (hm : nK ≤ 1000000) (i : Int) : Calls Tryz.prog 168 #[.agg #[.slice AK nK cK, .int .i64 own, .int .i64 o, .int .i64 a, .int .i64 b, .int .i64 c, .int .i64 n, .string nm, .bool loc, .int .i64 so, .int .i64 kd, .int .i64 df], .int .i32 102, .int .i64 i] w fun e w' => e = .returned (.int .i64 (slE ks i (wrap64 (1 + clsV o c kd)))) ∧ Below w.heap.size w w' := by
  obtain ⟨W1, hW1⟩ : ∃ W1, w.alloc (.cells #[.slice AK nK cK, .int .i64 own, .int .i64 o, .int .i64 a, .int .i64 b, .int .i64 c, .int .i64 n, .string nm, .bool loc, .int .i64 so, .int .i64 kd, .int .i64 df] 123) = W1 := ⟨_, rfl⟩
  have HB1 := Lib.hid (show Below w.heap.size w W1 from by rw [← hW1]; exact alloc_ _ _)
  have HX := Lib.hid (show Blk W1 w.heap.size 123 #[.slice AK nK cK, .int .i64 own, .int .i64 o, .int .i64 a, .int .i64 b, .int .i64 c, .int .i64 n, .string nm, .bool loc, .int .i64 so, .int .i64 kd, .int .i64 df] from by rw [← hW1]; exact Blk.new w _ _)
  obtain ⟨x0, x1, x2, x3, x4, x5, x6, x7, x8, x9, x10, x11⟩ := blk12 HX.out
  have HS := Lib.hid (fun W (hb : Below W1.heap.size W1 W) => fc_any own o a b c n nm loc so kd df AK nK cK W h1 h2 ks (hk.on (to_ HB1.out hb)) hl hm i)
  generalize slE ks i (wrap64 (1 + clsV o c kd)) = z at HS ⊢
  obtain ⟨W2, hW2⟩ : ∃ W2, W1.alloc (.cells #[.int .i32 119, .func (.func 282) #[] #[], .int .i32 114, .func (.func 282) #[] #[], .int .i32 103, .func (.func 283) #[] #[], .int .i32 102, .func (.func 283) #[] #[], .int .i32 99, .func (.func 284) #[] #[], .int .i32 100, .func (.func 285) #[] #[], .int .i32 118, .func (.func 286) #[] #[]] 246) = W2 := ⟨_, rfl⟩
  have HB2 := Lib.hid (show Below W1.heap.size W1 W2 from by rw [← hW2]; exact alloc_ _ _)
  obtain ⟨r0, r1, r2, r3, r4, r5, r6, r7, r8, r9, r10, r11, r12, r13⟩ := blk14 (show Blk W2 W1.heap.size 246 #[.int .i32 119, .func (.func 282) #[] #[], .int .i32 114, .func (.func 282) #[] #[], .int .i32 103, .func (.func 283) #[] #[], .int .i32 102, .func (.func 283) #[] #[], .int .i32 99, .func (.func 284) #[] #[], .int .i32 100, .func (.func 285) #[] #[], .int .i32 118, .func (.func 286) #[] #[]] from by rw [← hW2]; exact Blk.new W1 _ _)
  have HRR := Lib.hid (show Blk W2 W1.heap.size 246 #[.int .i32 119, .func (.func 282) #[] #[], .int .i32 114, .func (.func 282) #[] #[], .int .i32 103, .func (.func 283) #[] #[], .int .i32 102, .func (.func 283) #[] #[], .int .i32 99, .func (.func 284) #[] #[], .int .i32 100, .func (.func 285) #[] #[], .int .i32 118, .func (.func 286) #[] #[]] from by rw [← hW2]; exact Blk.new W1 _ _)
  have HRU := Lib.hid (show Calls Tryz.prog 232 #[] W1 fun e w' => e = .returned (.slice (some ⟨W1.heap.size, 0, none⟩) 7 7) ∧ w' = W2 from by rw [← hW2]; exact rules_any W1)
  clear hk hl h1 h2
  go_enter Tryz.func168, Tryz.ntmps168
  go_wp2_with fail
  clear hW1 hW2 x0 x1 x2 x3 x4 x5 x6 x7 x8 x9 x10 x11 r0 r1 r2 r3 r4 r5 r6 r7 r8 r9 r10 r11 r12 r13
  refine HRU.out.mono ?_
  rintro e v0 ⟨rfl, rfl⟩
  go_wp2_with fail
  refine wp_loop_rounds 5 ?_
  have HV0 := Lib.hid HB2.out
  have HR0 := Lib.hid (show Blk v0 W1.heap.size 246 #[.int .i32 119, .func (.func 282) #[] #[], .int .i32 114, .func (.func 282) #[] #[], .int .i32 103, .func (.func 283) #[] #[], .int .i32 102, .func (.func 283) #[] #[], .int .i32 99, .func (.func 284) #[] #[], .int .i32 100, .func (.func 285) #[] #[], .int .i32 118, .func (.func 286) #[] #[]] from HRR.out)
  obtain ⟨v1, hv1⟩ : ∃ v, v0.alloc (.cells #[.int .i32 119, .func (.func 282) #[] #[]] 246) = v := ⟨_, rfl⟩
  obtain ⟨r0, r1, r2, r3, r4, r5, r6, r7, r8, r9, r10, r11, r12, r13⟩ := blk14 HR0.out
  have HN1 := Lib.hid (show Blk v1 v0.heap.size 246 #[.int .i32 119, .func (.func 282) #[] #[]] from by rw [← hv1]; exact Blk.new v0 _ _)
  have n0 : v1.cell? ⟨v0.heap.size, 0, none⟩ = some (.int .i32 119) := HN1.out.cell 0
  have n1 : v1.cell? ⟨v0.heap.size, 1, none⟩ = some (.func (.func 282) #[] #[]) := HN1.out.cell 1
  have hb : Below v0.heap.size v0 v1 := by rw [← hv1]; exact alloc_ _ _
  have HV1 := Lib.hid (to_ HV0.out hb)
  have HR1 := Lib.hid (HR0.out.below hb HR0.out.lt)
  clear hb
  obtain ⟨x0, x1, x2, x3, x4, x5, x6, x7, x8, x9, x10, x11⟩ := blk12 (HX.out.below HV1.out HX.out.lt)
  rw [rounds_succ]
  go_wp2_with fail
  clear hv1 r0 r1 r2 r3 r4 r5 r6 r7 r8 r9 r10 r11 r12 r13 n0 n1 x0 x1 x2 x3 x4 x5 x6 x7 x8 x9 x10 x11
  obtain ⟨v2, hv2⟩ : ∃ v, v1.alloc (.cells #[.int .i32 114, .func (.func 282) #[] #[]] 246) = v := ⟨_, rfl⟩
  obtain ⟨r0, r1, r2, r3, r4, r5, r6, r7, r8, r9, r10, r11, r12, r13⟩ := blk14 HR1.out
  have HN2 := Lib.hid (show Blk v2 v1.heap.size 246 #[.int .i32 114, .func (.func 282) #[] #[]] from by rw [← hv2]; exact Blk.new v1 _ _)
  have n0 : v2.cell? ⟨v1.heap.size, 0, none⟩ = some (.int .i32 114) := HN2.out.cell 0
  have n1 : v2.cell? ⟨v1.heap.size, 1, none⟩ = some (.func (.func 282) #[] #[]) := HN2.out.cell 1
  have hb : Below v1.heap.size v1 v2 := by rw [← hv2]; exact alloc_ _ _
  have HV2 := Lib.hid (to_ HV1.out hb)
  have HR2 := Lib.hid (HR1.out.below hb HR1.out.lt)
  clear hb
  obtain ⟨x0, x1, x2, x3, x4, x5, x6, x7, x8, x9, x10, x11⟩ := blk12 (HX.out.below HV2.out HX.out.lt)
  rw [rounds_succ]
  go_wp2_with fail
  clear hv2 r0 r1 r2 r3 r4 r5 r6 r7 r8 r9 r10 r11 r12 r13 n0 n1 x0 x1 x2 x3 x4 x5 x6 x7 x8 x9 x10 x11
  obtain ⟨v3, hv3⟩ : ∃ v, v2.alloc (.cells #[.int .i32 103, .func (.func 283) #[] #[]] 246) = v := ⟨_, rfl⟩
  obtain ⟨r0, r1, r2, r3, r4, r5, r6, r7, r8, r9, r10, r11, r12, r13⟩ := blk14 HR2.out
  have HN3 := Lib.hid (show Blk v3 v2.heap.size 246 #[.int .i32 103, .func (.func 283) #[] #[]] from by rw [← hv3]; exact Blk.new v2 _ _)
  have n0 : v3.cell? ⟨v2.heap.size, 0, none⟩ = some (.int .i32 103) := HN3.out.cell 0
  have n1 : v3.cell? ⟨v2.heap.size, 1, none⟩ = some (.func (.func 283) #[] #[]) := HN3.out.cell 1
  have hb : Below v2.heap.size v2 v3 := by rw [← hv3]; exact alloc_ _ _
  have HV3 := Lib.hid (to_ HV2.out hb)
  have HR3 := Lib.hid (HR2.out.below hb HR2.out.lt)
  clear hb
  obtain ⟨x0, x1, x2, x3, x4, x5, x6, x7, x8, x9, x10, x11⟩ := blk12 (HX.out.below HV3.out HX.out.lt)
  rw [rounds_succ]
  go_wp2_with fail
  clear hv3 r0 r1 r2 r3 r4 r5 r6 r7 r8 r9 r10 r11 r12 r13 n0 n1 x0 x1 x2 x3 x4 x5 x6 x7 x8 x9 x10 x11
  obtain ⟨v4, hv4⟩ : ∃ v, v3.alloc (.cells #[.int .i32 102, .func (.func 283) #[] #[]] 246) = v := ⟨_, rfl⟩
  obtain ⟨r0, r1, r2, r3, r4, r5, r6, r7, r8, r9, r10, r11, r12, r13⟩ := blk14 HR3.out
  have HN4 := Lib.hid (show Blk v4 v3.heap.size 246 #[.int .i32 102, .func (.func 283) #[] #[]] from by rw [← hv4]; exact Blk.new v3 _ _)
  have n0 : v4.cell? ⟨v3.heap.size, 0, none⟩ = some (.int .i32 102) := HN4.out.cell 0
  have n1 : v4.cell? ⟨v3.heap.size, 1, none⟩ = some (.func (.func 283) #[] #[]) := HN4.out.cell 1
  have hb : Below v3.heap.size v3 v4 := by rw [← hv4]; exact alloc_ _ _
  have HV4 := Lib.hid (to_ HV3.out hb)
  have HR4 := Lib.hid (HR3.out.below hb HR3.out.lt)
  clear hb
  obtain ⟨x0, x1, x2, x3, x4, x5, x6, x7, x8, x9, x10, x11⟩ := blk12 (HX.out.below HV4.out HX.out.lt)
  rw [rounds_succ]
  go_wp2_with fail
  clear hv4 r0 r1 r2 r3 r4 r5 r6 r7 r8 r9 r10 r11 r12 r13 n0 n1 x0 x1 x2 x3 x4 x5 x6 x7 x8 x9 x10 x11
  refine (HS.out _ HV4.out).mono ?_
  rintro e w9 ⟨rfl, b9⟩
  have HB9 := Lib.hid (to_ HB1.out (to_ HV4.out b9))
  clear b9
  go_wp2_with fail
  go_ret
  exact ⟨rfl, HB9.out⟩
set_option maxHeartbeats 8000000 in
theorem lt4_any (own o a b c n : Int) (nm : ByteArray) (loc : Bool) (so kd df : Int) (AK : Option Addr) (nK cK : Nat) (w : World) (h1 : -9223372036854775808 ≤ kd) (h2 : kd ≤ 9223372036854775807) (ks : List Int) (hk : IW w (.slice AK nK cK) ks) (hl : ks.length = nK) (hm : nK ≤ 1000000) (i : Int) : Calls Tryz.prog 168 #[.agg #[.slice AK nK cK, .int .i64 own, .int .i64 o, .int .i64 a, .int .i64 b, .int .i64 c, .int .i64 n, .string nm, .bool loc, .int .i64 so, .int .i64 kd, .int .i64 df], .int .i32 99, .int .i64 i] w fun e w' => e = .returned (.int .i64 (cdE ks (clsV o c kd) i)) ∧ Below w.heap.size w w' := by
  obtain ⟨W1, hW1⟩ : ∃ W1, w.alloc (.cells #[.slice AK nK cK, .int .i64 own, .int .i64 o, .int .i64 a, .int .i64 b, .int .i64 c, .int .i64 n, .string nm, .bool loc, .int .i64 so, .int .i64 kd, .int .i64 df] 123) = W1 := ⟨_, rfl⟩
  have HB1 := Lib.hid (show Below w.heap.size w W1 from by rw [← hW1]; exact alloc_ _ _)
  have HX := Lib.hid (show Blk W1 w.heap.size 123 #[.slice AK nK cK, .int .i64 own, .int .i64 o, .int .i64 a, .int .i64 b, .int .i64 c, .int .i64 n, .string nm, .bool loc, .int .i64 so, .int .i64 kd, .int .i64 df] from by rw [← hW1]; exact Blk.new w _ _)
  obtain ⟨x0, x1, x2, x3, x4, x5, x6, x7, x8, x9, x10, x11⟩ := blk12 HX.out
  have HS := Lib.hid (fun W (hb : Below W1.heap.size W1 W) => cd_any own o a b c n nm loc so kd df AK nK cK W h1 h2 ks (hk.on (to_ HB1.out hb)) hl hm i)
  generalize cdE ks (clsV o c kd) i = z at HS ⊢
  obtain ⟨W2, hW2⟩ : ∃ W2, W1.alloc (.cells #[.int .i32 119, .func (.func 282) #[] #[], .int .i32 114, .func (.func 282) #[] #[], .int .i32 103, .func (.func 283) #[] #[], .int .i32 102, .func (.func 283) #[] #[], .int .i32 99, .func (.func 284) #[] #[], .int .i32 100, .func (.func 285) #[] #[], .int .i32 118, .func (.func 286) #[] #[]] 246) = W2 := ⟨_, rfl⟩
  have HB2 := Lib.hid (show Below W1.heap.size W1 W2 from by rw [← hW2]; exact alloc_ _ _)
  obtain ⟨r0, r1, r2, r3, r4, r5, r6, r7, r8, r9, r10, r11, r12, r13⟩ := blk14 (show Blk W2 W1.heap.size 246 #[.int .i32 119, .func (.func 282) #[] #[], .int .i32 114, .func (.func 282) #[] #[], .int .i32 103, .func (.func 283) #[] #[], .int .i32 102, .func (.func 283) #[] #[], .int .i32 99, .func (.func 284) #[] #[], .int .i32 100, .func (.func 285) #[] #[], .int .i32 118, .func (.func 286) #[] #[]] from by rw [← hW2]; exact Blk.new W1 _ _)
  have HRR := Lib.hid (show Blk W2 W1.heap.size 246 #[.int .i32 119, .func (.func 282) #[] #[], .int .i32 114, .func (.func 282) #[] #[], .int .i32 103, .func (.func 283) #[] #[], .int .i32 102, .func (.func 283) #[] #[], .int .i32 99, .func (.func 284) #[] #[], .int .i32 100, .func (.func 285) #[] #[], .int .i32 118, .func (.func 286) #[] #[]] from by rw [← hW2]; exact Blk.new W1 _ _)
  have HRU := Lib.hid (show Calls Tryz.prog 232 #[] W1 fun e w' => e = .returned (.slice (some ⟨W1.heap.size, 0, none⟩) 7 7) ∧ w' = W2 from by rw [← hW2]; exact rules_any W1)
  clear hk hl h1 h2
  go_enter Tryz.func168, Tryz.ntmps168
  go_wp2_with fail
  clear hW1 hW2 x0 x1 x2 x3 x4 x5 x6 x7 x8 x9 x10 x11 r0 r1 r2 r3 r4 r5 r6 r7 r8 r9 r10 r11 r12 r13
  refine HRU.out.mono ?_
  rintro e v0 ⟨rfl, rfl⟩
  go_wp2_with fail
  refine wp_loop_rounds 6 ?_
  have HV0 := Lib.hid HB2.out
  have HR0 := Lib.hid (show Blk v0 W1.heap.size 246 #[.int .i32 119, .func (.func 282) #[] #[], .int .i32 114, .func (.func 282) #[] #[], .int .i32 103, .func (.func 283) #[] #[], .int .i32 102, .func (.func 283) #[] #[], .int .i32 99, .func (.func 284) #[] #[], .int .i32 100, .func (.func 285) #[] #[], .int .i32 118, .func (.func 286) #[] #[]] from HRR.out)
  obtain ⟨v1, hv1⟩ : ∃ v, v0.alloc (.cells #[.int .i32 119, .func (.func 282) #[] #[]] 246) = v := ⟨_, rfl⟩
  obtain ⟨r0, r1, r2, r3, r4, r5, r6, r7, r8, r9, r10, r11, r12, r13⟩ := blk14 HR0.out
  have HN1 := Lib.hid (show Blk v1 v0.heap.size 246 #[.int .i32 119, .func (.func 282) #[] #[]] from by rw [← hv1]; exact Blk.new v0 _ _)
  have n0 : v1.cell? ⟨v0.heap.size, 0, none⟩ = some (.int .i32 119) := HN1.out.cell 0
  have n1 : v1.cell? ⟨v0.heap.size, 1, none⟩ = some (.func (.func 282) #[] #[]) := HN1.out.cell 1
  have hb : Below v0.heap.size v0 v1 := by rw [← hv1]; exact alloc_ _ _
  have HV1 := Lib.hid (to_ HV0.out hb)
  have HR1 := Lib.hid (HR0.out.below hb HR0.out.lt)
  clear hb
  obtain ⟨x0, x1, x2, x3, x4, x5, x6, x7, x8, x9, x10, x11⟩ := blk12 (HX.out.below HV1.out HX.out.lt)
  rw [rounds_succ]
  go_wp2_with fail
  clear hv1 r0 r1 r2 r3 r4 r5 r6 r7 r8 r9 r10 r11 r12 r13 n0 n1 x0 x1 x2 x3 x4 x5 x6 x7 x8 x9 x10 x11
  obtain ⟨v2, hv2⟩ : ∃ v, v1.alloc (.cells #[.int .i32 114, .func (.func 282) #[] #[]] 246) = v := ⟨_, rfl⟩
  obtain ⟨r0, r1, r2, r3, r4, r5, r6, r7, r8, r9, r10, r11, r12, r13⟩ := blk14 HR1.out
  have HN2 := Lib.hid (show Blk v2 v1.heap.size 246 #[.int .i32 114, .func (.func 282) #[] #[]] from by rw [← hv2]; exact Blk.new v1 _ _)
  have n0 : v2.cell? ⟨v1.heap.size, 0, none⟩ = some (.int .i32 114) := HN2.out.cell 0
  have n1 : v2.cell? ⟨v1.heap.size, 1, none⟩ = some (.func (.func 282) #[] #[]) := HN2.out.cell 1
  have hb : Below v1.heap.size v1 v2 := by rw [← hv2]; exact alloc_ _ _
  have HV2 := Lib.hid (to_ HV1.out hb)
  have HR2 := Lib.hid (HR1.out.below hb HR1.out.lt)
  clear hb
  obtain ⟨x0, x1, x2, x3, x4, x5, x6, x7, x8, x9, x10, x11⟩ := blk12 (HX.out.below HV2.out HX.out.lt)
  rw [rounds_succ]
  go_wp2_with fail
  clear hv2 r0 r1 r2 r3 r4 r5 r6 r7 r8 r9 r10 r11 r12 r13 n0 n1 x0 x1 x2 x3 x4 x5 x6 x7 x8 x9 x10 x11
  obtain ⟨v3, hv3⟩ : ∃ v, v2.alloc (.cells #[.int .i32 103, .func (.func 283) #[] #[]] 246) = v := ⟨_, rfl⟩
  obtain ⟨r0, r1, r2, r3, r4, r5, r6, r7, r8, r9, r10, r11, r12, r13⟩ := blk14 HR2.out
  have HN3 := Lib.hid (show Blk v3 v2.heap.size 246 #[.int .i32 103, .func (.func 283) #[] #[]] from by rw [← hv3]; exact Blk.new v2 _ _)
  have n0 : v3.cell? ⟨v2.heap.size, 0, none⟩ = some (.int .i32 103) := HN3.out.cell 0
  have n1 : v3.cell? ⟨v2.heap.size, 1, none⟩ = some (.func (.func 283) #[] #[]) := HN3.out.cell 1
  have hb : Below v2.heap.size v2 v3 := by rw [← hv3]; exact alloc_ _ _
  have HV3 := Lib.hid (to_ HV2.out hb)
  have HR3 := Lib.hid (HR2.out.below hb HR2.out.lt)
  clear hb
  obtain ⟨x0, x1, x2, x3, x4, x5, x6, x7, x8, x9, x10, x11⟩ := blk12 (HX.out.below HV3.out HX.out.lt)
  rw [rounds_succ]
  go_wp2_with fail
  clear hv3 r0 r1 r2 r3 r4 r5 r6 r7 r8 r9 r10 r11 r12 r13 n0 n1 x0 x1 x2 x3 x4 x5 x6 x7 x8 x9 x10 x11
  obtain ⟨v4, hv4⟩ : ∃ v, v3.alloc (.cells #[.int .i32 102, .func (.func 283) #[] #[]] 246) = v := ⟨_, rfl⟩
  obtain ⟨r0, r1, r2, r3, r4, r5, r6, r7, r8, r9, r10, r11, r12, r13⟩ := blk14 HR3.out
  have HN4 := Lib.hid (show Blk v4 v3.heap.size 246 #[.int .i32 102, .func (.func 283) #[] #[]] from by rw [← hv4]; exact Blk.new v3 _ _)
  have n0 : v4.cell? ⟨v3.heap.size, 0, none⟩ = some (.int .i32 102) := HN4.out.cell 0
  have n1 : v4.cell? ⟨v3.heap.size, 1, none⟩ = some (.func (.func 283) #[] #[]) := HN4.out.cell 1
  have hb : Below v3.heap.size v3 v4 := by rw [← hv4]; exact alloc_ _ _
  have HV4 := Lib.hid (to_ HV3.out hb)
  have HR4 := Lib.hid (HR3.out.below hb HR3.out.lt)
  clear hb
  obtain ⟨x0, x1, x2, x3, x4, x5, x6, x7, x8, x9, x10, x11⟩ := blk12 (HX.out.below HV4.out HX.out.lt)
  rw [rounds_succ]
  go_wp2_with fail
  clear hv4 r0 r1 r2 r3 r4 r5 r6 r7 r8 r9 r10 r11 r12 r13 n0 n1 x0 x1 x2 x3 x4 x5 x6 x7 x8 x9 x10 x11
  obtain ⟨v5, hv5⟩ : ∃ v, v4.alloc (.cells #[.int .i32 99, .func (.func 284) #[] #[]] 246) = v := ⟨_, rfl⟩
  obtain ⟨r0, r1, r2, r3, r4, r5, r6, r7, r8, r9, r10, r11, r12, r13⟩ := blk14 HR4.out
  have HN5 := Lib.hid (show Blk v5 v4.heap.size 246 #[.int .i32 99, .func (.func 284) #[] #[]] from by rw [← hv5]; exact Blk.new v4 _ _)
  have n0 : v5.cell? ⟨v4.heap.size, 0, none⟩ = some (.int .i32 99) := HN5.out.cell 0
  have n1 : v5.cell? ⟨v4.heap.size, 1, none⟩ = some (.func (.func 284) #[] #[]) := HN5.out.cell 1
  have hb : Below v4.heap.size v4 v5 := by rw [← hv5]; exact alloc_ _ _
  have HV5 := Lib.hid (to_ HV4.out hb)
  have HR5 := Lib.hid (HR4.out.below hb HR4.out.lt)
  clear hb
  obtain ⟨x0, x1, x2, x3, x4, x5, x6, x7, x8, x9, x10, x11⟩ := blk12 (HX.out.below HV5.out HX.out.lt)
  rw [rounds_succ]
  go_wp2_with fail
  clear hv5 r0 r1 r2 r3 r4 r5 r6 r7 r8 r9 r10 r11 r12 r13 n0 n1 x0 x1 x2 x3 x4 x5 x6 x7 x8 x9 x10 x11
  refine (HS.out _ HV5.out).mono ?_
  rintro e w9 ⟨rfl, b9⟩
  have HB9 := Lib.hid (to_ HB1.out (to_ HV5.out b9))
  clear b9
  go_wp2_with fail
  go_ret
  exact ⟨rfl, HB9.out⟩
set_option maxHeartbeats 8000000 in
theorem lt5_any (own o a b c n : Int) (nm : ByteArray) (loc : Bool) (so kd df : Int) (AK : Option Addr) (nK cK : Nat) (w : World) (h1 : -9223372036854775808 ≤ kd) (h2 : kd ≤ 9223372036854775807) (ks : List Int) (hk : IW w (.slice AK nK cK) ks) (hl : ks.length = nK) (hm : nK ≤ 1000000) (i : Int) : Calls Tryz.prog 168 #[.agg #[.slice AK nK cK, .int .i64 own, .int .i64 o, .int .i64 a, .int .i64 b, .int .i64 c, .int .i64 n, .string nm, .bool loc, .int .i64 so, .int .i64 kd, .int .i64 df], .int .i32 100, .int .i64 i] w fun e w' => e = .returned (.int .i64 (dfE ks (clsV o c kd) i)) ∧ Below w.heap.size w w' := by
  obtain ⟨W1, hW1⟩ : ∃ W1, w.alloc (.cells #[.slice AK nK cK, .int .i64 own, .int .i64 o, .int .i64 a, .int .i64 b, .int .i64 c, .int .i64 n, .string nm, .bool loc, .int .i64 so, .int .i64 kd, .int .i64 df] 123) = W1 := ⟨_, rfl⟩
  have HB1 := Lib.hid (show Below w.heap.size w W1 from by rw [← hW1]; exact alloc_ _ _)
  have HX := Lib.hid (show Blk W1 w.heap.size 123 #[.slice AK nK cK, .int .i64 own, .int .i64 o, .int .i64 a, .int .i64 b, .int .i64 c, .int .i64 n, .string nm, .bool loc, .int .i64 so, .int .i64 kd, .int .i64 df] from by rw [← hW1]; exact Blk.new w _ _)
  obtain ⟨x0, x1, x2, x3, x4, x5, x6, x7, x8, x9, x10, x11⟩ := blk12 HX.out
  have HS := Lib.hid (fun W (hb : Below W1.heap.size W1 W) => df_any own o a b c n nm loc so kd df AK nK cK W h1 h2 ks (hk.on (to_ HB1.out hb)) hl hm i)
  generalize dfE ks (clsV o c kd) i = z at HS ⊢
  obtain ⟨W2, hW2⟩ : ∃ W2, W1.alloc (.cells #[.int .i32 119, .func (.func 282) #[] #[], .int .i32 114, .func (.func 282) #[] #[], .int .i32 103, .func (.func 283) #[] #[], .int .i32 102, .func (.func 283) #[] #[], .int .i32 99, .func (.func 284) #[] #[], .int .i32 100, .func (.func 285) #[] #[], .int .i32 118, .func (.func 286) #[] #[]] 246) = W2 := ⟨_, rfl⟩
  have HB2 := Lib.hid (show Below W1.heap.size W1 W2 from by rw [← hW2]; exact alloc_ _ _)
  obtain ⟨r0, r1, r2, r3, r4, r5, r6, r7, r8, r9, r10, r11, r12, r13⟩ := blk14 (show Blk W2 W1.heap.size 246 #[.int .i32 119, .func (.func 282) #[] #[], .int .i32 114, .func (.func 282) #[] #[], .int .i32 103, .func (.func 283) #[] #[], .int .i32 102, .func (.func 283) #[] #[], .int .i32 99, .func (.func 284) #[] #[], .int .i32 100, .func (.func 285) #[] #[], .int .i32 118, .func (.func 286) #[] #[]] from by rw [← hW2]; exact Blk.new W1 _ _)
  have HRR := Lib.hid (show Blk W2 W1.heap.size 246 #[.int .i32 119, .func (.func 282) #[] #[], .int .i32 114, .func (.func 282) #[] #[], .int .i32 103, .func (.func 283) #[] #[], .int .i32 102, .func (.func 283) #[] #[], .int .i32 99, .func (.func 284) #[] #[], .int .i32 100, .func (.func 285) #[] #[], .int .i32 118, .func (.func 286) #[] #[]] from by rw [← hW2]; exact Blk.new W1 _ _)
  have HRU := Lib.hid (show Calls Tryz.prog 232 #[] W1 fun e w' => e = .returned (.slice (some ⟨W1.heap.size, 0, none⟩) 7 7) ∧ w' = W2 from by rw [← hW2]; exact rules_any W1)
  clear hk hl h1 h2
  go_enter Tryz.func168, Tryz.ntmps168
  go_wp2_with fail
  clear hW1 hW2 x0 x1 x2 x3 x4 x5 x6 x7 x8 x9 x10 x11 r0 r1 r2 r3 r4 r5 r6 r7 r8 r9 r10 r11 r12 r13
  refine HRU.out.mono ?_
  rintro e v0 ⟨rfl, rfl⟩
  go_wp2_with fail
  refine wp_loop_rounds 7 ?_
  have HV0 := Lib.hid HB2.out
  have HR0 := Lib.hid (show Blk v0 W1.heap.size 246 #[.int .i32 119, .func (.func 282) #[] #[], .int .i32 114, .func (.func 282) #[] #[], .int .i32 103, .func (.func 283) #[] #[], .int .i32 102, .func (.func 283) #[] #[], .int .i32 99, .func (.func 284) #[] #[], .int .i32 100, .func (.func 285) #[] #[], .int .i32 118, .func (.func 286) #[] #[]] from HRR.out)
  obtain ⟨v1, hv1⟩ : ∃ v, v0.alloc (.cells #[.int .i32 119, .func (.func 282) #[] #[]] 246) = v := ⟨_, rfl⟩
  obtain ⟨r0, r1, r2, r3, r4, r5, r6, r7, r8, r9, r10, r11, r12, r13⟩ := blk14 HR0.out
  have HN1 := Lib.hid (show Blk v1 v0.heap.size 246 #[.int .i32 119, .func (.func 282) #[] #[]] from by rw [← hv1]; exact Blk.new v0 _ _)
  have n0 : v1.cell? ⟨v0.heap.size, 0, none⟩ = some (.int .i32 119) := HN1.out.cell 0
  have n1 : v1.cell? ⟨v0.heap.size, 1, none⟩ = some (.func (.func 282) #[] #[]) := HN1.out.cell 1
  have hb : Below v0.heap.size v0 v1 := by rw [← hv1]; exact alloc_ _ _
  have HV1 := Lib.hid (to_ HV0.out hb)
  have HR1 := Lib.hid (HR0.out.below hb HR0.out.lt)
  clear hb
  obtain ⟨x0, x1, x2, x3, x4, x5, x6, x7, x8, x9, x10, x11⟩ := blk12 (HX.out.below HV1.out HX.out.lt)
  rw [rounds_succ]
  go_wp2_with fail
  clear hv1 r0 r1 r2 r3 r4 r5 r6 r7 r8 r9 r10 r11 r12 r13 n0 n1 x0 x1 x2 x3 x4 x5 x6 x7 x8 x9 x10 x11
  obtain ⟨v2, hv2⟩ : ∃ v, v1.alloc (.cells #[.int .i32 114, .func (.func 282) #[] #[]] 246) = v := ⟨_, rfl⟩
  obtain ⟨r0, r1, r2, r3, r4, r5, r6, r7, r8, r9, r10, r11, r12, r13⟩ := blk14 HR1.out
  have HN2 := Lib.hid (show Blk v2 v1.heap.size 246 #[.int .i32 114, .func (.func 282) #[] #[]] from by rw [← hv2]; exact Blk.new v1 _ _)
  have n0 : v2.cell? ⟨v1.heap.size, 0, none⟩ = some (.int .i32 114) := HN2.out.cell 0
  have n1 : v2.cell? ⟨v1.heap.size, 1, none⟩ = some (.func (.func 282) #[] #[]) := HN2.out.cell 1
  have hb : Below v1.heap.size v1 v2 := by rw [← hv2]; exact alloc_ _ _
  have HV2 := Lib.hid (to_ HV1.out hb)
  have HR2 := Lib.hid (HR1.out.below hb HR1.out.lt)
  clear hb
  obtain ⟨x0, x1, x2, x3, x4, x5, x6, x7, x8, x9, x10, x11⟩ := blk12 (HX.out.below HV2.out HX.out.lt)
  rw [rounds_succ]
  go_wp2_with fail
  clear hv2 r0 r1 r2 r3 r4 r5 r6 r7 r8 r9 r10 r11 r12 r13 n0 n1 x0 x1 x2 x3 x4 x5 x6 x7 x8 x9 x10 x11
  obtain ⟨v3, hv3⟩ : ∃ v, v2.alloc (.cells #[.int .i32 103, .func (.func 283) #[] #[]] 246) = v := ⟨_, rfl⟩
  obtain ⟨r0, r1, r2, r3, r4, r5, r6, r7, r8, r9, r10, r11, r12, r13⟩ := blk14 HR2.out
  have HN3 := Lib.hid (show Blk v3 v2.heap.size 246 #[.int .i32 103, .func (.func 283) #[] #[]] from by rw [← hv3]; exact Blk.new v2 _ _)
  have n0 : v3.cell? ⟨v2.heap.size, 0, none⟩ = some (.int .i32 103) := HN3.out.cell 0
  have n1 : v3.cell? ⟨v2.heap.size, 1, none⟩ = some (.func (.func 283) #[] #[]) := HN3.out.cell 1
  have hb : Below v2.heap.size v2 v3 := by rw [← hv3]; exact alloc_ _ _
  have HV3 := Lib.hid (to_ HV2.out hb)
  have HR3 := Lib.hid (HR2.out.below hb HR2.out.lt)
  clear hb
  obtain ⟨x0, x1, x2, x3, x4, x5, x6, x7, x8, x9, x10, x11⟩ := blk12 (HX.out.below HV3.out HX.out.lt)
  rw [rounds_succ]
  go_wp2_with fail
  clear hv3 r0 r1 r2 r3 r4 r5 r6 r7 r8 r9 r10 r11 r12 r13 n0 n1 x0 x1 x2 x3 x4 x5 x6 x7 x8 x9 x10 x11
  obtain ⟨v4, hv4⟩ : ∃ v, v3.alloc (.cells #[.int .i32 102, .func (.func 283) #[] #[]] 246) = v := ⟨_, rfl⟩
  obtain ⟨r0, r1, r2, r3, r4, r5, r6, r7, r8, r9, r10, r11, r12, r13⟩ := blk14 HR3.out
  have HN4 := Lib.hid (show Blk v4 v3.heap.size 246 #[.int .i32 102, .func (.func 283) #[] #[]] from by rw [← hv4]; exact Blk.new v3 _ _)
  have n0 : v4.cell? ⟨v3.heap.size, 0, none⟩ = some (.int .i32 102) := HN4.out.cell 0
  have n1 : v4.cell? ⟨v3.heap.size, 1, none⟩ = some (.func (.func 283) #[] #[]) := HN4.out.cell 1
  have hb : Below v3.heap.size v3 v4 := by rw [← hv4]; exact alloc_ _ _
  have HV4 := Lib.hid (to_ HV3.out hb)
  have HR4 := Lib.hid (HR3.out.below hb HR3.out.lt)
  clear hb
  obtain ⟨x0, x1, x2, x3, x4, x5, x6, x7, x8, x9, x10, x11⟩ := blk12 (HX.out.below HV4.out HX.out.lt)
  rw [rounds_succ]
  go_wp2_with fail
  clear hv4 r0 r1 r2 r3 r4 r5 r6 r7 r8 r9 r10 r11 r12 r13 n0 n1 x0 x1 x2 x3 x4 x5 x6 x7 x8 x9 x10 x11
  obtain ⟨v5, hv5⟩ : ∃ v, v4.alloc (.cells #[.int .i32 99, .func (.func 284) #[] #[]] 246) = v := ⟨_, rfl⟩
  obtain ⟨r0, r1, r2, r3, r4, r5, r6, r7, r8, r9, r10, r11, r12, r13⟩ := blk14 HR4.out
  have HN5 := Lib.hid (show Blk v5 v4.heap.size 246 #[.int .i32 99, .func (.func 284) #[] #[]] from by rw [← hv5]; exact Blk.new v4 _ _)
  have n0 : v5.cell? ⟨v4.heap.size, 0, none⟩ = some (.int .i32 99) := HN5.out.cell 0
  have n1 : v5.cell? ⟨v4.heap.size, 1, none⟩ = some (.func (.func 284) #[] #[]) := HN5.out.cell 1
  have hb : Below v4.heap.size v4 v5 := by rw [← hv5]; exact alloc_ _ _
  have HV5 := Lib.hid (to_ HV4.out hb)
  have HR5 := Lib.hid (HR4.out.below hb HR4.out.lt)
  clear hb
  obtain ⟨x0, x1, x2, x3, x4, x5, x6, x7, x8, x9, x10, x11⟩ := blk12 (HX.out.below HV5.out HX.out.lt)
  rw [rounds_succ]
  go_wp2_with fail
  clear hv5 r0 r1 r2 r3 r4 r5 r6 r7 r8 r9 r10 r11 r12 r13 n0 n1 x0 x1 x2 x3 x4 x5 x6 x7 x8 x9 x10 x11
  obtain ⟨v6, hv6⟩ : ∃ v, v5.alloc (.cells #[.int .i32 100, .func (.func 285) #[] #[]] 246) = v := ⟨_, rfl⟩
  obtain ⟨r0, r1, r2, r3, r4, r5, r6, r7, r8, r9, r10, r11, r12, r13⟩ := blk14 HR5.out
  have HN6 := Lib.hid (show Blk v6 v5.heap.size 246 #[.int .i32 100, .func (.func 285) #[] #[]] from by rw [← hv6]; exact Blk.new v5 _ _)
  have n0 : v6.cell? ⟨v5.heap.size, 0, none⟩ = some (.int .i32 100) := HN6.out.cell 0
  have n1 : v6.cell? ⟨v5.heap.size, 1, none⟩ = some (.func (.func 285) #[] #[]) := HN6.out.cell 1
  have hb : Below v5.heap.size v5 v6 := by rw [← hv6]; exact alloc_ _ _
  have HV6 := Lib.hid (to_ HV5.out hb)
  have HR6 := Lib.hid (HR5.out.below hb HR5.out.lt)
  clear hb
  obtain ⟨x0, x1, x2, x3, x4, x5, x6, x7, x8, x9, x10, x11⟩ := blk12 (HX.out.below HV6.out HX.out.lt)
  rw [rounds_succ]
  go_wp2_with fail
  clear hv6 r0 r1 r2 r3 r4 r5 r6 r7 r8 r9 r10 r11 r12 r13 n0 n1 x0 x1 x2 x3 x4 x5 x6 x7 x8 x9 x10 x11
  refine (HS.out _ HV6.out).mono ?_
  rintro e w9 ⟨rfl, b9⟩
  have HB9 := Lib.hid (to_ HB1.out (to_ HV6.out b9))
  clear b9
  go_wp2_with fail
  go_ret
  exact ⟨rfl, HB9.out⟩
set_option maxHeartbeats 8000000 in
theorem lt6_any (own o a b c n : Int) (nm : ByteArray) (loc : Bool) (so kd df : Int) (AK : Option Addr) (nK cK : Nat) (w : World) (h1 : -9223372036854775808 ≤ kd) (h2 : kd ≤ 9223372036854775807) (ks : List Int) (hk : IW w (.slice AK nK cK) ks) (hl : ks.length = nK) (hm : nK ≤ 1000000) (i : Int) : Calls Tryz.prog 168 #[.agg #[.slice AK nK cK, .int .i64 own, .int .i64 o, .int .i64 a, .int .i64 b, .int .i64 c, .int .i64 n, .string nm, .bool loc, .int .i64 so, .int .i64 kd, .int .i64 df], .int .i32 118, .int .i64 i] w fun e w' => e = .returned (.int .i64 (anE ks own i)) ∧ Below w.heap.size w w' := by
  obtain ⟨W1, hW1⟩ : ∃ W1, w.alloc (.cells #[.slice AK nK cK, .int .i64 own, .int .i64 o, .int .i64 a, .int .i64 b, .int .i64 c, .int .i64 n, .string nm, .bool loc, .int .i64 so, .int .i64 kd, .int .i64 df] 123) = W1 := ⟨_, rfl⟩
  have HB1 := Lib.hid (show Below w.heap.size w W1 from by rw [← hW1]; exact alloc_ _ _)
  have HX := Lib.hid (show Blk W1 w.heap.size 123 #[.slice AK nK cK, .int .i64 own, .int .i64 o, .int .i64 a, .int .i64 b, .int .i64 c, .int .i64 n, .string nm, .bool loc, .int .i64 so, .int .i64 kd, .int .i64 df] from by rw [← hW1]; exact Blk.new w _ _)
  obtain ⟨x0, x1, x2, x3, x4, x5, x6, x7, x8, x9, x10, x11⟩ := blk12 HX.out
  have HS := Lib.hid (fun W (hb : Below W1.heap.size W1 W) => an_any own o a b c n nm loc so kd df AK nK cK W ks (hk.on (to_ HB1.out hb)) hl hm i)
  generalize anE ks own i = z at HS ⊢
  obtain ⟨W2, hW2⟩ : ∃ W2, W1.alloc (.cells #[.int .i32 119, .func (.func 282) #[] #[], .int .i32 114, .func (.func 282) #[] #[], .int .i32 103, .func (.func 283) #[] #[], .int .i32 102, .func (.func 283) #[] #[], .int .i32 99, .func (.func 284) #[] #[], .int .i32 100, .func (.func 285) #[] #[], .int .i32 118, .func (.func 286) #[] #[]] 246) = W2 := ⟨_, rfl⟩
  have HB2 := Lib.hid (show Below W1.heap.size W1 W2 from by rw [← hW2]; exact alloc_ _ _)
  obtain ⟨r0, r1, r2, r3, r4, r5, r6, r7, r8, r9, r10, r11, r12, r13⟩ := blk14 (show Blk W2 W1.heap.size 246 #[.int .i32 119, .func (.func 282) #[] #[], .int .i32 114, .func (.func 282) #[] #[], .int .i32 103, .func (.func 283) #[] #[], .int .i32 102, .func (.func 283) #[] #[], .int .i32 99, .func (.func 284) #[] #[], .int .i32 100, .func (.func 285) #[] #[], .int .i32 118, .func (.func 286) #[] #[]] from by rw [← hW2]; exact Blk.new W1 _ _)
  have HRR := Lib.hid (show Blk W2 W1.heap.size 246 #[.int .i32 119, .func (.func 282) #[] #[], .int .i32 114, .func (.func 282) #[] #[], .int .i32 103, .func (.func 283) #[] #[], .int .i32 102, .func (.func 283) #[] #[], .int .i32 99, .func (.func 284) #[] #[], .int .i32 100, .func (.func 285) #[] #[], .int .i32 118, .func (.func 286) #[] #[]] from by rw [← hW2]; exact Blk.new W1 _ _)
  have HRU := Lib.hid (show Calls Tryz.prog 232 #[] W1 fun e w' => e = .returned (.slice (some ⟨W1.heap.size, 0, none⟩) 7 7) ∧ w' = W2 from by rw [← hW2]; exact rules_any W1)
  clear hk hl h1 h2
  go_enter Tryz.func168, Tryz.ntmps168
  go_wp2_with fail
  clear hW1 hW2 x0 x1 x2 x3 x4 x5 x6 x7 x8 x9 x10 x11 r0 r1 r2 r3 r4 r5 r6 r7 r8 r9 r10 r11 r12 r13
  refine HRU.out.mono ?_
  rintro e v0 ⟨rfl, rfl⟩
  go_wp2_with fail
  refine wp_loop_rounds 8 ?_
  have HV0 := Lib.hid HB2.out
  have HR0 := Lib.hid (show Blk v0 W1.heap.size 246 #[.int .i32 119, .func (.func 282) #[] #[], .int .i32 114, .func (.func 282) #[] #[], .int .i32 103, .func (.func 283) #[] #[], .int .i32 102, .func (.func 283) #[] #[], .int .i32 99, .func (.func 284) #[] #[], .int .i32 100, .func (.func 285) #[] #[], .int .i32 118, .func (.func 286) #[] #[]] from HRR.out)
  obtain ⟨v1, hv1⟩ : ∃ v, v0.alloc (.cells #[.int .i32 119, .func (.func 282) #[] #[]] 246) = v := ⟨_, rfl⟩
  obtain ⟨r0, r1, r2, r3, r4, r5, r6, r7, r8, r9, r10, r11, r12, r13⟩ := blk14 HR0.out
  have HN1 := Lib.hid (show Blk v1 v0.heap.size 246 #[.int .i32 119, .func (.func 282) #[] #[]] from by rw [← hv1]; exact Blk.new v0 _ _)
  have n0 : v1.cell? ⟨v0.heap.size, 0, none⟩ = some (.int .i32 119) := HN1.out.cell 0
  have n1 : v1.cell? ⟨v0.heap.size, 1, none⟩ = some (.func (.func 282) #[] #[]) := HN1.out.cell 1
  have hb : Below v0.heap.size v0 v1 := by rw [← hv1]; exact alloc_ _ _
  have HV1 := Lib.hid (to_ HV0.out hb)
  have HR1 := Lib.hid (HR0.out.below hb HR0.out.lt)
  clear hb
  obtain ⟨x0, x1, x2, x3, x4, x5, x6, x7, x8, x9, x10, x11⟩ := blk12 (HX.out.below HV1.out HX.out.lt)
  rw [rounds_succ]
  go_wp2_with fail
  clear hv1 r0 r1 r2 r3 r4 r5 r6 r7 r8 r9 r10 r11 r12 r13 n0 n1 x0 x1 x2 x3 x4 x5 x6 x7 x8 x9 x10 x11
  obtain ⟨v2, hv2⟩ : ∃ v, v1.alloc (.cells #[.int .i32 114, .func (.func 282) #[] #[]] 246) = v := ⟨_, rfl⟩
  obtain ⟨r0, r1, r2, r3, r4, r5, r6, r7, r8, r9, r10, r11, r12, r13⟩ := blk14 HR1.out
  have HN2 := Lib.hid (show Blk v2 v1.heap.size 246 #[.int .i32 114, .func (.func 282) #[] #[]] from by rw [← hv2]; exact Blk.new v1 _ _)
  have n0 : v2.cell? ⟨v1.heap.size, 0, none⟩ = some (.int .i32 114) := HN2.out.cell 0
  have n1 : v2.cell? ⟨v1.heap.size, 1, none⟩ = some (.func (.func 282) #[] #[]) := HN2.out.cell 1
  have hb : Below v1.heap.size v1 v2 := by rw [← hv2]; exact alloc_ _ _
  have HV2 := Lib.hid (to_ HV1.out hb)
  have HR2 := Lib.hid (HR1.out.below hb HR1.out.lt)
  clear hb
  obtain ⟨x0, x1, x2, x3, x4, x5, x6, x7, x8, x9, x10, x11⟩ := blk12 (HX.out.below HV2.out HX.out.lt)
  rw [rounds_succ]
  go_wp2_with fail
  clear hv2 r0 r1 r2 r3 r4 r5 r6 r7 r8 r9 r10 r11 r12 r13 n0 n1 x0 x1 x2 x3 x4 x5 x6 x7 x8 x9 x10 x11
  obtain ⟨v3, hv3⟩ : ∃ v, v2.alloc (.cells #[.int .i32 103, .func (.func 283) #[] #[]] 246) = v := ⟨_, rfl⟩
  obtain ⟨r0, r1, r2, r3, r4, r5, r6, r7, r8, r9, r10, r11, r12, r13⟩ := blk14 HR2.out
  have HN3 := Lib.hid (show Blk v3 v2.heap.size 246 #[.int .i32 103, .func (.func 283) #[] #[]] from by rw [← hv3]; exact Blk.new v2 _ _)
  have n0 : v3.cell? ⟨v2.heap.size, 0, none⟩ = some (.int .i32 103) := HN3.out.cell 0
  have n1 : v3.cell? ⟨v2.heap.size, 1, none⟩ = some (.func (.func 283) #[] #[]) := HN3.out.cell 1
  have hb : Below v2.heap.size v2 v3 := by rw [← hv3]; exact alloc_ _ _
  have HV3 := Lib.hid (to_ HV2.out hb)
  have HR3 := Lib.hid (HR2.out.below hb HR2.out.lt)
  clear hb
  obtain ⟨x0, x1, x2, x3, x4, x5, x6, x7, x8, x9, x10, x11⟩ := blk12 (HX.out.below HV3.out HX.out.lt)
  rw [rounds_succ]
  go_wp2_with fail
  clear hv3 r0 r1 r2 r3 r4 r5 r6 r7 r8 r9 r10 r11 r12 r13 n0 n1 x0 x1 x2 x3 x4 x5 x6 x7 x8 x9 x10 x11
  obtain ⟨v4, hv4⟩ : ∃ v, v3.alloc (.cells #[.int .i32 102, .func (.func 283) #[] #[]] 246) = v := ⟨_, rfl⟩
  obtain ⟨r0, r1, r2, r3, r4, r5, r6, r7, r8, r9, r10, r11, r12, r13⟩ := blk14 HR3.out
  have HN4 := Lib.hid (show Blk v4 v3.heap.size 246 #[.int .i32 102, .func (.func 283) #[] #[]] from by rw [← hv4]; exact Blk.new v3 _ _)
  have n0 : v4.cell? ⟨v3.heap.size, 0, none⟩ = some (.int .i32 102) := HN4.out.cell 0
  have n1 : v4.cell? ⟨v3.heap.size, 1, none⟩ = some (.func (.func 283) #[] #[]) := HN4.out.cell 1
  have hb : Below v3.heap.size v3 v4 := by rw [← hv4]; exact alloc_ _ _
  have HV4 := Lib.hid (to_ HV3.out hb)
  have HR4 := Lib.hid (HR3.out.below hb HR3.out.lt)
  clear hb
  obtain ⟨x0, x1, x2, x3, x4, x5, x6, x7, x8, x9, x10, x11⟩ := blk12 (HX.out.below HV4.out HX.out.lt)
  rw [rounds_succ]
  go_wp2_with fail
  clear hv4 r0 r1 r2 r3 r4 r5 r6 r7 r8 r9 r10 r11 r12 r13 n0 n1 x0 x1 x2 x3 x4 x5 x6 x7 x8 x9 x10 x11
  obtain ⟨v5, hv5⟩ : ∃ v, v4.alloc (.cells #[.int .i32 99, .func (.func 284) #[] #[]] 246) = v := ⟨_, rfl⟩
  obtain ⟨r0, r1, r2, r3, r4, r5, r6, r7, r8, r9, r10, r11, r12, r13⟩ := blk14 HR4.out
  have HN5 := Lib.hid (show Blk v5 v4.heap.size 246 #[.int .i32 99, .func (.func 284) #[] #[]] from by rw [← hv5]; exact Blk.new v4 _ _)
  have n0 : v5.cell? ⟨v4.heap.size, 0, none⟩ = some (.int .i32 99) := HN5.out.cell 0
  have n1 : v5.cell? ⟨v4.heap.size, 1, none⟩ = some (.func (.func 284) #[] #[]) := HN5.out.cell 1
  have hb : Below v4.heap.size v4 v5 := by rw [← hv5]; exact alloc_ _ _
  have HV5 := Lib.hid (to_ HV4.out hb)
  have HR5 := Lib.hid (HR4.out.below hb HR4.out.lt)
  clear hb
  obtain ⟨x0, x1, x2, x3, x4, x5, x6, x7, x8, x9, x10, x11⟩ := blk12 (HX.out.below HV5.out HX.out.lt)
  rw [rounds_succ]
  go_wp2_with fail
  clear hv5 r0 r1 r2 r3 r4 r5 r6 r7 r8 r9 r10 r11 r12 r13 n0 n1 x0 x1 x2 x3 x4 x5 x6 x7 x8 x9 x10 x11
  obtain ⟨v6, hv6⟩ : ∃ v, v5.alloc (.cells #[.int .i32 100, .func (.func 285) #[] #[]] 246) = v := ⟨_, rfl⟩
  obtain ⟨r0, r1, r2, r3, r4, r5, r6, r7, r8, r9, r10, r11, r12, r13⟩ := blk14 HR5.out
  have HN6 := Lib.hid (show Blk v6 v5.heap.size 246 #[.int .i32 100, .func (.func 285) #[] #[]] from by rw [← hv6]; exact Blk.new v5 _ _)
  have n0 : v6.cell? ⟨v5.heap.size, 0, none⟩ = some (.int .i32 100) := HN6.out.cell 0
  have n1 : v6.cell? ⟨v5.heap.size, 1, none⟩ = some (.func (.func 285) #[] #[]) := HN6.out.cell 1
  have hb : Below v5.heap.size v5 v6 := by rw [← hv6]; exact alloc_ _ _
  have HV6 := Lib.hid (to_ HV5.out hb)
  have HR6 := Lib.hid (HR5.out.below hb HR5.out.lt)
  clear hb
  obtain ⟨x0, x1, x2, x3, x4, x5, x6, x7, x8, x9, x10, x11⟩ := blk12 (HX.out.below HV6.out HX.out.lt)
  rw [rounds_succ]
  go_wp2_with fail
  clear hv6 r0 r1 r2 r3 r4 r5 r6 r7 r8 r9 r10 r11 r12 r13 n0 n1 x0 x1 x2 x3 x4 x5 x6 x7 x8 x9 x10 x11
  obtain ⟨v7, hv7⟩ : ∃ v, v6.alloc (.cells #[.int .i32 118, .func (.func 286) #[] #[]] 246) = v := ⟨_, rfl⟩
  obtain ⟨r0, r1, r2, r3, r4, r5, r6, r7, r8, r9, r10, r11, r12, r13⟩ := blk14 HR6.out
  have HN7 := Lib.hid (show Blk v7 v6.heap.size 246 #[.int .i32 118, .func (.func 286) #[] #[]] from by rw [← hv7]; exact Blk.new v6 _ _)
  have n0 : v7.cell? ⟨v6.heap.size, 0, none⟩ = some (.int .i32 118) := HN7.out.cell 0
  have n1 : v7.cell? ⟨v6.heap.size, 1, none⟩ = some (.func (.func 286) #[] #[]) := HN7.out.cell 1
  have hb : Below v6.heap.size v6 v7 := by rw [← hv7]; exact alloc_ _ _
  have HV7 := Lib.hid (to_ HV6.out hb)
  have HR7 := Lib.hid (HR6.out.below hb HR6.out.lt)
  clear hb
  obtain ⟨x0, x1, x2, x3, x4, x5, x6, x7, x8, x9, x10, x11⟩ := blk12 (HX.out.below HV7.out HX.out.lt)
  rw [rounds_succ]
  go_wp2_with fail
  clear hv7 r0 r1 r2 r3 r4 r5 r6 r7 r8 r9 r10 r11 r12 r13 n0 n1 x0 x1 x2 x3 x4 x5 x6 x7 x8 x9 x10 x11
  refine (HS.out _ HV7.out).mono ?_
  rintro e w9 ⟨rfl, b9⟩
  have HB9 := Lib.hid (to_ HB1.out (to_ HV7.out b9))
  clear b9
  go_wp2_with fail
  go_ret
  exact ⟨rfl, HB9.out⟩
end Go.Proofs.YtbknmapkdjmcjaaGreatDoor.By
