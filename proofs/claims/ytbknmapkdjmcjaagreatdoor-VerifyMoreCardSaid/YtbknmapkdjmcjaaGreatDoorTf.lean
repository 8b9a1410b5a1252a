/-
  WALKS of layer 17: all operands.
-/
import Derived.Test.YtbknmapkdjmcjaaGreatDoorTe
namespace Go.Proofs.YtbknmapkdjmcjaaGreatDoor.By
open Go.RowKit
open Mem Gm Rf
set_option linter.unusedSimpArgs false
set_option linter.unusedVariables false

set_option maxHeartbeats 8000000 in
theorem ltn_any (own o a b c n : Int) (nm : ByteArray) (loc : Bool) (so kd df : Int) (AK : Option Addr) (nK cK : Nat) (w : World) (c9 : Nat) (i : Int) (h9 : c9 ≠ 119 ∧ c9 ≠ 114 ∧ c9 ≠ 103 ∧ c9 ≠ 102 ∧ c9 ≠ 99 ∧ c9 ≠ 100 ∧ c9 ≠ 118) : Calls Tryz.prog 168 #[.agg #[.slice AK nK cK, .int .i64 own, .int .i64 o, .int .i64 a, .int .i64 b, .int .i64 c, .int .i64 n, .string nm, .bool loc, .int .i64 so, .int .i64 kd, .int .i64 df], .int .i32 (c9 : Int), .int .i64 i] w fun e w' => e = .returned (.int .i64 0) ∧ Below w.heap.size w w' := by
  obtain ⟨W1, hW1⟩ : ∃ W1, w.alloc (.cells #[.slice AK nK cK, .int .i64 own, .int .i64 o, .int .i64 a, .int .i64 b, .int .i64 c, .int .i64 n, .string nm, .bool loc, .int .i64 so, .int .i64 kd, .int .i64 df] 123) = W1 := ⟨_, rfl⟩
  have HB1 := Lib.hid (show Below w.heap.size w W1 from by rw [← hW1]; exact alloc_ _ _)
  have HX := Lib.hid (show Blk W1 w.heap.size 123 #[.slice AK nK cK, .int .i64 own, .int .i64 o, .int .i64 a, .int .i64 b, .int .i64 c, .int .i64 n, .string nm, .bool loc, .int .i64 so, .int .i64 kd, .int .i64 df] from by rw [← hW1]; exact Blk.new w _ _)
  obtain ⟨x0, x1, x2, x3, x4, x5, x6, x7, x8, x9, x10, x11⟩ := blk12 HX.out
  obtain ⟨W2, hW2⟩ : ∃ W2, W1.alloc (.cells #[.int .i32 119, .func (.func 282) #[] #[], .int .i32 114, .func (.func 282) #[] #[], .int .i32 103, .func (.func 283) #[] #[], .int .i32 102, .func (.func 283) #[] #[], .int .i32 99, .func (.func 284) #[] #[], .int .i32 100, .func (.func 285) #[] #[], .int .i32 118, .func (.func 286) #[] #[]] 246) = W2 := ⟨_, rfl⟩
  have HB2 := Lib.hid (show Below W1.heap.size W1 W2 from by rw [← hW2]; exact alloc_ _ _)
  have HRR := Lib.hid (show Blk W2 W1.heap.size 246 #[.int .i32 119, .func (.func 282) #[] #[], .int .i32 114, .func (.func 282) #[] #[], .int .i32 103, .func (.func 283) #[] #[], .int .i32 102, .func (.func 283) #[] #[], .int .i32 99, .func (.func 284) #[] #[], .int .i32 100, .func (.func 285) #[] #[], .int .i32 118, .func (.func 286) #[] #[]] from by rw [← hW2]; exact Blk.new W1 _ _)
  have HRU := Lib.hid (show Calls Tryz.prog 232 #[] W1 fun e w' => e = .returned (.slice (some ⟨W1.heap.size, 0, none⟩) 7 7) ∧ w' = W2 from by rw [← hW2]; exact rules_any W1)
  have d0 : ((119 : Int) == (c9 : Int)) = false := by simp; omega
  have d1 : ((114 : Int) == (c9 : Int)) = false := by simp; omega
  have d2 : ((103 : Int) == (c9 : Int)) = false := by simp; omega
  have d3 : ((102 : Int) == (c9 : Int)) = false := by simp; omega
  have d4 : ((99 : Int) == (c9 : Int)) = false := by simp; omega
  have d5 : ((100 : Int) == (c9 : Int)) = false := by simp; omega
  have d6 : ((118 : Int) == (c9 : Int)) = false := by simp; omega
  clear h9
  go_enter Tryz.func168, Tryz.ntmps168
  go_wp2_with fail
  clear hW1 hW2 x0 x1 x2 x3 x4 x5 x6 x7 x8 x9 x10 x11
  refine HRU.out.mono ?_
  rintro e v0 ⟨rfl, rfl⟩
  go_wp2_with fail
  refine wp_loop_rounds 8 ?_
  have HV0 := Lib.hid HB2.out
  have HR0 := Lib.hid (show Blk v0 W1.heap.size 246 #[.int .i32 119, .func (.func 282) #[] #[], .int .i32 114, .func (.func 282) #[] #[], .int .i32 103, .func (.func 283) #[] #[], .int .i32 102, .func (.func 283) #[] #[], .int .i32 99, .func (.func 284) #[] #[], .int .i32 100, .func (.func 285) #[] #[], .int .i32 118, .func (.func 286) #[] #[]] from HRR.out)
  obtain ⟨v1, hv1⟩ : ∃ v, v0.alloc (.cells #[.int .i32 119, .func (.func 282) #[] #[]] 246) = v := ⟨_, rfl⟩
  obtain ⟨r0, r1, r2, r3, r4, r5, r6, r7, r8, r9, r10, r11, r12, r13⟩ := blk14 HR0.out
  have HN1 := Lib.hid (show Blk v1 v0.heap.size 246 #[.int .i32 119, .func (.func 282) #[] #[]] from by rw [← hv1]; exact Blk.new v0 _ _)
  have n0 : v1.cell? ⟨v0.heap.size, 0, none⟩ = some (.int .i32 119) := HN1.out.cell 0
  have n1 : v1.cell? ⟨v0.heap.size, 1, none⟩ = some (.func (.func 282) #[] #[]) := HN1.out.cell 1
  have hb : Below v0.heap.size v0 v1 := by rw [← hv1]; exact alloc_ _ _
  have HV1 := Lib.hid (to_ HV0.out hb)
  have HR1 := Lib.hid (HR0.out.below hb HR0.out.lt)
  clear hb
  obtain ⟨x0, x1, x2, x3, x4, x5, x6, x7, x8, x9, x10, x11⟩ := blk12 (HX.out.below HV1.out HX.out.lt)
  rw [rounds_succ]
  go_wp2_with fail
  clear hv1 r0 r1 r2 r3 r4 r5 r6 r7 r8 r9 r10 r11 r12 r13 n0 n1 x0 x1 x2 x3 x4 x5 x6 x7 x8 x9 x10 x11
  obtain ⟨v2, hv2⟩ : ∃ v, v1.alloc (.cells #[.int .i32 114, .func (.func 282) #[] #[]] 246) = v := ⟨_, rfl⟩
  obtain ⟨r0, r1, r2, r3, r4, r5, r6, r7, r8, r9, r10, r11, r12, r13⟩ := blk14 HR1.out
  have HN2 := Lib.hid (show Blk v2 v1.heap.size 246 #[.int .i32 114, .func (.func 282) #[] #[]] from by rw [← hv2]; exact Blk.new v1 _ _)
  have n0 : v2.cell? ⟨v1.heap.size, 0, none⟩ = some (.int .i32 114) := HN2.out.cell 0
  have n1 : v2.cell? ⟨v1.heap.size, 1, none⟩ = some (.func (.func 282) #[] #[]) := HN2.out.cell 1
  have hb : Below v1.heap.size v1 v2 := by rw [← hv2]; exact alloc_ _ _
  have HV2 := Lib.hid (to_ HV1.out hb)
  have HR2 := Lib.hid (HR1.out.below hb HR1.out.lt)
  clear hb
  obtain ⟨x0, x1, x2, x3, x4, x5, x6, x7, x8, x9, x10, x11⟩ := blk12 (HX.out.below HV2.out HX.out.lt)
  rw [rounds_succ]
  go_wp2_with fail
  clear hv2 r0 r1 r2 r3 r4 r5 r6 r7 r8 r9 r10 r11 r12 r13 n0 n1 x0 x1 x2 x3 x4 x5 x6 x7 x8 x9 x10 x11
  obtain ⟨v3, hv3⟩ : ∃ v, v2.alloc (.cells #[.int .i32 103, .func (.func 283) #[] #[]] 246) = v := ⟨_, rfl⟩
  obtain ⟨r0, r1, r2, r3, r4, r5, r6, r7, r8, r9, r10, r11, r12, r13⟩ := blk14 HR2.out
  have HN3 := Lib.hid (show Blk v3 v2.heap.size 246 #[.int .i32 103, .func (.func 283) #[] #[]] from by rw [← hv3]; exact Blk.new v2 _ _)
  have n0 : v3.cell? ⟨v2.heap.size, 0, none⟩ = some (.int .i32 103) := HN3.out.cell 0
  have n1 : v3.cell? ⟨v2.heap.size, 1, none⟩ = some (.func (.func 283) #[] #[]) := HN3.out.cell 1
  have hb : Below v2.heap.size v2 v3 := by rw [← hv3]; exact alloc_ _ _
  have HV3 := Lib.hid (to_ HV2.out hb)
  have HR3 := Lib.hid (HR2.out.below hb HR2.out.lt)
  clear hb
  obtain ⟨x0, x1, x2, x3, x4, x5, x6, x7, x8, x9, x10, x11⟩ := blk12 (HX.out.below HV3.out HX.out.lt)
  rw [rounds_succ]
  go_wp2_with fail
  clear hv3 r0 r1 r2 r3 r4 r5 r6 r7 r8 r9 r10 r11 r12 r13 n0 n1 x0 x1 x2 x3 x4 x5 x6 x7 x8 x9 x10 x11
  obtain ⟨v4, hv4⟩ : ∃ v, v3.alloc (.cells #[.int .i32 102, .func (.func 283) #[] #[]] 246) = v := ⟨_, rfl⟩
  obtain ⟨r0, r1, r2, r3, r4, r5, r6, r7, r8, r9, r10, r11, r12, r13⟩ := blk14 HR3.out
  have HN4 := Lib.hid (show Blk v4 v3.heap.size 246 #[.int .i32 102, .func (.func 283) #[] #[]] from by rw [← hv4]; exact Blk.new v3 _ _)
  have n0 : v4.cell? ⟨v3.heap.size, 0, none⟩ = some (.int .i32 102) := HN4.out.cell 0
  have n1 : v4.cell? ⟨v3.heap.size, 1, none⟩ = some (.func (.func 283) #[] #[]) := HN4.out.cell 1
  have hb : Below v3.heap.size v3 v4 := by rw [← hv4]; exact alloc_ _ _
  have HV4 := Lib.hid (to_ HV3.out hb)
  have HR4 := Lib.hid (HR3.out.below hb HR3.out.lt)
  clear hb
  obtain ⟨x0, x1, x2, x3, x4, x5, x6, x7, x8, x9, x10, x11⟩ := blk12 (HX.out.below HV4.out HX.out.lt)
  rw [rounds_succ]
  go_wp2_with fail
  clear hv4 r0 r1 r2 r3 r4 r5 r6 r7 r8 r9 r10 r11 r12 r13 n0 n1 x0 x1 x2 x3 x4 x5 x6 x7 x8 x9 x10 x11
  obtain ⟨v5, hv5⟩ : ∃ v, v4.alloc (.cells #[.int .i32 99, .func (.func 284) #[] #[]] 246) = v := ⟨_, rfl⟩
  obtain ⟨r0, r1, r2, r3, r4, r5, r6, r7, r8, r9, r10, r11, r12, r13⟩ := blk14 HR4.out
  have HN5 := Lib.hid (show Blk v5 v4.heap.size 246 #[.int .i32 99, .func (.func 284) #[] #[]] from by rw [← hv5]; exact Blk.new v4 _ _)
  have n0 : v5.cell? ⟨v4.heap.size, 0, none⟩ = some (.int .i32 99) := HN5.out.cell 0
  have n1 : v5.cell? ⟨v4.heap.size, 1, none⟩ = some (.func (.func 284) #[] #[]) := HN5.out.cell 1
  have hb : Below v4.heap.size v4 v5 := by rw [← hv5]; exact alloc_ _ _
  have HV5 := Lib.hid (to_ HV4.out hb)
  have HR5 := Lib.hid (HR4.out.below hb HR4.out.lt)
  clear hb
  obtain ⟨x0, x1, x2, x3, x4, x5, x6, x7, x8, x9, x10, x11⟩ := blk12 (HX.out.below HV5.out HX.out.lt)
  rw [rounds_succ]
  go_wp2_with fail
  clear hv5 r0 r1 r2 r3 r4 r5 r6 r7 r8 r9 r10 r11 r12 r13 n0 n1 x0 x1 x2 x3 x4 x5 x6 x7 x8 x9 x10 x11
  obtain ⟨v6, hv6⟩ : ∃ v, v5.alloc (.cells #[.int .i32 100, .func (.func 285) #[] #[]] 246) = v := ⟨_, rfl⟩
  obtain ⟨r0, r1, r2, r3, r4, r5, r6, r7, r8, r9, r10, r11, r12, r13⟩ := blk14 HR5.out
  have HN6 := Lib.hid (show Blk v6 v5.heap.size 246 #[.int .i32 100, .func (.func 285) #[] #[]] from by rw [← hv6]; exact Blk.new v5 _ _)
  have n0 : v6.cell? ⟨v5.heap.size, 0, none⟩ = some (.int .i32 100) := HN6.out.cell 0
  have n1 : v6.cell? ⟨v5.heap.size, 1, none⟩ = some (.func (.func 285) #[] #[]) := HN6.out.cell 1
  have hb : Below v5.heap.size v5 v6 := by rw [← hv6]; exact alloc_ _ _
  have HV6 := Lib.hid (to_ HV5.out hb)
  have HR6 := Lib.hid (HR5.out.below hb HR5.out.lt)
  clear hb
  obtain ⟨x0, x1, x2, x3, x4, x5, x6, x7, x8, x9, x10, x11⟩ := blk12 (HX.out.below HV6.out HX.out.lt)
  rw [rounds_succ]
  go_wp2_with fail
  clear hv6 r0 r1 r2 r3 r4 r5 r6 r7 r8 r9 r10 r11 r12 r13 n0 n1 x0 x1 x2 x3 x4 x5 x6 x7 x8 x9 x10 x11
  obtain ⟨v7, hv7⟩ : ∃ v, v6.alloc (.cells #[.int .i32 118, .func (.func 286) #[] #[]] 246) = v := ⟨_, rfl⟩
  obtain ⟨r0, r1, r2, r3, r4, r5, r6, r7, r8, r9, r10, r11, r12, r13⟩ := blk14 HR6.out
  have HN7 := Lib.hid (show Blk v7 v6.heap.size 246 #[.int .i32 118, .func (.func 286) #[] #[]] from by rw [← hv7]; exact Blk.new v6 _ _)
  have n0 : v7.cell? ⟨v6.heap.size, 0, none⟩ = some (.int .i32 118) := HN7.out.cell 0
  have n1 : v7.cell? ⟨v6.heap.size, 1, none⟩ = some (.func (.func 286) #[] #[]) := HN7.out.cell 1
  have hb : Below v6.heap.size v6 v7 := by rw [← hv7]; exact alloc_ _ _
  have HV7 := Lib.hid (to_ HV6.out hb)
  have HR7 := Lib.hid (HR6.out.below hb HR6.out.lt)
  clear hb
  obtain ⟨x0, x1, x2, x3, x4, x5, x6, x7, x8, x9, x10, x11⟩ := blk12 (HX.out.below HV7.out HX.out.lt)
  rw [rounds_succ]
  go_wp2_with fail
  clear hv7 r0 r1 r2 r3 r4 r5 r6 r7 r8 r9 r10 r11 r12 r13 n0 n1 x0 x1 x2 x3 x4 x5 x6 x7 x8 x9 x10 x11
  rw [rounds_succ]
  go_wp2_with fail
  go_ret
  exact ⟨rfl, to_ HB1.out HV7.out⟩
theorem lt_any (own o a b c n : Int) (nm : ByteArray) (loc : Bool) (so kd df : Int) (AK : Option Addr) (nK cK : Nat) (w : World) (h1 : -9223372036854775808 ≤ kd) (h2 : kd ≤ 9223372036854775807) (ks : List Int) (hk : IW w (.slice AK nK cK) ks) (hl : ks.length = nK) (hm : nK ≤ 1000000) (c9 : Nat) (i : Int) : Calls Tryz.prog 168 #[.agg #[.slice AK nK cK, .int .i64 own, .int .i64 o, .int .i64 a, .int .i64 b, .int .i64 c, .int .i64 n, .string nm, .bool loc, .int .i64 so, .int .i64 kd, .int .i64 df], .int .i32 (c9 : Int), .int .i64 i] w fun e w' => e = .returned (.int .i64 (ltE ks own (clsV o c kd) c9 i)) ∧ Below w.heap.size w w' := by
  by_cases h0 : c9 = 119
  · subst h0; exact lt0_any own o a b c n nm loc so kd df AK nK cK w h1 h2 ks hk hl hm i
  by_cases h3 : c9 = 114
  · subst h3; exact lt1_any own o a b c n nm loc so kd df AK nK cK w h1 h2 ks hk hl hm i
  by_cases h4 : c9 = 103
  · subst h4; exact lt2_any own o a b c n nm loc so kd df AK nK cK w h1 h2 ks hk hl hm i
  by_cases h5 : c9 = 102
  · subst h5; exact lt3_any own o a b c n nm loc so kd df AK nK cK w h1 h2 ks hk hl hm i
  by_cases h6 : c9 = 99
  · subst h6; exact lt4_any own o a b c n nm loc so kd df AK nK cK w h1 h2 ks hk hl hm i
  by_cases h7 : c9 = 100
  · subst h7; exact lt5_any own o a b c n nm loc so kd df AK nK cK w h1 h2 ks hk hl hm i
  by_cases h8 : c9 = 118
  · subst h8; exact lt6_any own o a b c n nm loc so kd df AK nK cK w h1 h2 ks hk hl hm i
  have hz : ltE ks own (clsV o c kd) c9 i = 0 := by unfold ltE; simp [h0, h3, h4, h5, h6, h7, h8]
  rw [hz]
  exact ltn_any own o a b c n nm loc so kd df AK nK cK w c9 i ⟨h0, h3, h4, h5, h6, h7, h8⟩
theorem shV_list (o : Int) : (shV o).data.toList = shl o := by
  unfold shV shl
  split
  · rfl
  · rfl
theorem shl_low (o : Int) (k : Nat) (hk : k < (shl o).length) : ((shl o).getD k 0).toNat < 128 := by
  unfold shl at hk ⊢
  split
  · next h => rw [if_pos h] at hk; exact sh_low o.toNat (by omega) k (by have := sh_len o.toNat (by omega); omega)
  · next h => rw [if_neg h] at hk; simp at hk
theorem opE_fix {ks : List Int} {own cl : Int} {y : In5} {k : Nat} (h : opE ks own cl y k ≠ 0) : ∀ n, k ≤ n → opE ks own cl y n = opE ks own cl y k
  | 0, hn => by obtain rfl : k = 0 := by omega
                rfl
  | n + 1, hn => by
    by_cases he : k = n + 1
    · subst he; rfl
    · have h1 := opE_fix h n (by omega)
      rw [opE, if_neg (by rw [h1]; exact h), h1]

set_option maxHeartbeats 8000000 in
theorem ops_any (own o a b c n : Int) (nm : ByteArray) (loc : Bool) (so kd df : Int) (AK : Option Addr) (nK cK : Nat) (w : World) (h1 : -9223372036854775808 ≤ kd) (h2 : kd ≤ 9223372036854775807) (ks : List Int) (hk : IW w (.slice AK nK cK) ks) (hl : ks.length = nK) (hm : nK ≤ 1000000) (hT : Txs w) : Calls Tryz.prog 98 #[.agg #[.slice AK nK cK, .int .i64 own, .int .i64 o, .int .i64 a, .int .i64 b, .int .i64 c, .int .i64 n, .string nm, .bool loc, .int .i64 so, .int .i64 kd, .int .i64 df]] w fun e w' => e = .returned (.int .i64 (opE ks own (clsV o c kd) (o, a, b, c, n) (shl o).length)) ∧ Below w.heap.size w w' := by
  obtain ⟨W1, hW1⟩ : ∃ W1, w.alloc (.cells #[.slice AK nK cK, .int .i64 own, .int .i64 o, .int .i64 a, .int .i64 b, .int .i64 c, .int .i64 n, .string nm, .bool loc, .int .i64 so, .int .i64 kd, .int .i64 df] 123) = W1 := ⟨_, rfl⟩
  have HB1 := Lib.hid (show Below w.heap.size w W1 from by rw [← hW1]; exact alloc_ _ _)
  have HX := Lib.hid (show Blk W1 w.heap.size 123 #[.slice AK nK cK, .int .i64 own, .int .i64 o, .int .i64 a, .int .i64 b, .int .i64 c, .int .i64 n, .string nm, .bool loc, .int .i64 so, .int .i64 kd, .int .i64 df] from by rw [← hW1]; exact Blk.new w _ _)
  obtain ⟨x0, x1, x2, x3, x4, x5, x6, x7, x8, x9, x10, x11⟩ := blk12 HX.out
  have HL := Lib.hid (fun W (hb : Below W1.heap.size W1 W) c9 i => lt_any own o a b c n nm loc so kd df AK nK cK W h1 h2 ks (hk.on (to_ HB1.out hb)) hl hm c9 i)
  have HO := Lib.hid (fun W i => operand_any o a b c n i W)
  have HSH := Lib.hid (shape_any o W1 (hT.below HB1.out))
  have HSL := Lib.hid (shV_list o)
  have HLO := Lib.hid (shl_low o)
  have HL4 := Lib.hid (shl_len o)
  have HOE := Lib.hid (fun k => show opE ks own (clsV o c kd) (o, a, b, c, n) (k + 1) = if opE ks own (clsV o c kd) (o, a, b, c, n) k = 0 then ltE ks own (clsV o c kd) ((shl o).getD k 0).toNat (opdV a b c n k) else opE ks own (clsV o c kd) (o, a, b, c, n) k from rfl)
  have HOF := Lib.hid (fun k (h : opE ks own (clsV o c kd) (o, a, b, c, n) k ≠ 0) => opE_fix h)
  have HO0 := Lib.hid (show opE ks own (clsV o c kd) (o, a, b, c, n) 0 = 0 from rfl)
  have MK := Lib.hid (show ∀ W, Below W1.heap.size W1 W → (W.cell? ⟨w.heap.size, 0, none⟩ = some (.slice AK nK cK) ∧ W.cell? ⟨w.heap.size, 1, none⟩ = some (.int .i64 own) ∧ W.cell? ⟨w.heap.size, 2, none⟩ = some (.int .i64 o) ∧ W.cell? ⟨w.heap.size, 3, none⟩ = some (.int .i64 a) ∧ W.cell? ⟨w.heap.size, 4, none⟩ = some (.int .i64 b) ∧ W.cell? ⟨w.heap.size, 5, none⟩ = some (.int .i64 c) ∧ W.cell? ⟨w.heap.size, 6, none⟩ = some (.int .i64 n) ∧ W.cell? ⟨w.heap.size, 7, none⟩ = some (.string nm) ∧ W.cell? ⟨w.heap.size, 8, none⟩ = some (.bool loc) ∧ W.cell? ⟨w.heap.size, 9, none⟩ = some (.int .i64 so) ∧ W.cell? ⟨w.heap.size, 10, none⟩ = some (.int .i64 kd) ∧ W.cell? ⟨w.heap.size, 11, none⟩ = some (.int .i64 df)) ∧ Below W1.heap.size W1 W from fun W hb => ⟨blk12 (HX.out.below hb HX.out.lt), hb⟩)
  generalize opE ks own (clsV o c kd) (o, a, b, c, n) = oe at HOE HOF HO0 ⊢
  generalize hlt9 : ltE ks own (clsV o c kd) = lt9 at HL HOE
  generalize shl o = L at HSL HLO HL4 HOE ⊢
  generalize shV o = s at HSH HSL
  have hsz : s.size = L.length := by rw [← HSL.out]; exact Array.length_toList.symm
  have HSZ := Lib.hid hsz
  have hs4 : s.size ≤ 4 := by have := HL4.out; omega
  clear hk hl h1 h2 hT hlt9 hsz
  go_enter Tryz.func98, Tryz.ntmps98
  go_wp2_with (go_at_call 167; refine HSH.out.mono ?_; rintro e w' ⟨rfl, rfl⟩)
  go_loopw [11] (fun _ wr => ∃ pos : Nat, pos ≤ s.size ∧ wr.heap[W1.heap.size]? = some (.stringIter s pos) ∧ Hid (Below W1.heap.size W1 wr) ∧ Hid (oe pos = 0)) (fun _ wr => s.size - wr.iterPos W1.heap.size)
  case atStart => exact ⟨0, by omega, World.iter_heap W1 s 0, Lib.hid (alloc_ _ _), HO0⟩
  case round =>
    obtain ⟨pos, hpos, hit, HBX, HNA⟩ := hrel
    have hpos0 := iterPos_of hit
    by_cases hp : pos < s.size
    · have hpl : pos < s.data.toList.length := by simpa using hp
      have hgl : (s[pos]'hp) = s.data.toList[pos] := by simp [ByteArray.getElem_eq_getElem_data]
      have hcL : (s[pos]'hp).toNat = (L.getD pos 0).toNat := by
        rw [hgl, List.getD_eq_getElem?_getD, ← HSL.out, List.getElem?_eq_getElem hpl]; rfl
      have hx : (s[pos]'hp).toNat < 128 := by rw [hcL]; exact HLO.out pos (by have := HSZ.out; omega)
      have hnx : ∀ ty, (Instr.next (.pointer (some ⟨W1.heap.size, 0, none⟩)) true ty).run Tryz.prog wr = _ := fun ty => Lib.run_next_ascii_at wr W1.heap.size s pos ty hit hp hx
      have hit2 := Lib.iterAt_heap wr W1.heap.size s pos (pos + 1) hit
      have HB2 := Lib.hid (Lib.below_iterAt HBX.out (k := W1.heap.size) (Nat.le_refl _) s (pos + 1))
      obtain ⟨W2, hW2⟩ : ∃ W2, wr.iterAt W1.heap.size s (pos + 1) = W2 := ⟨_, rfl⟩
      rw [hW2] at hnx hit2 HB2
      have hpos2 := iterPos_of hit2
      have HIT := Lib.hid hit2
      have HLT := Lib.hid (show W1.heap.size < W2.heap.size from by
        rcases Nat.lt_or_ge W1.heap.size W2.heap.size with h | h
        · exact h
        · rw [Array.getElem?_eq_none h] at hit2; cases hit2)
      have MK2 := Lib.hid (show ∀ W, Below W2.heap.size W2 W → (W.cell? ⟨w.heap.size, 0, none⟩ = some (.slice AK nK cK) ∧ W.cell? ⟨w.heap.size, 1, none⟩ = some (.int .i64 own) ∧ W.cell? ⟨w.heap.size, 2, none⟩ = some (.int .i64 o) ∧ W.cell? ⟨w.heap.size, 3, none⟩ = some (.int .i64 a) ∧ W.cell? ⟨w.heap.size, 4, none⟩ = some (.int .i64 b) ∧ W.cell? ⟨w.heap.size, 5, none⟩ = some (.int .i64 c) ∧ W.cell? ⟨w.heap.size, 6, none⟩ = some (.int .i64 n) ∧ W.cell? ⟨w.heap.size, 7, none⟩ = some (.string nm) ∧ W.cell? ⟨w.heap.size, 8, none⟩ = some (.bool loc) ∧ W.cell? ⟨w.heap.size, 9, none⟩ = some (.int .i64 so) ∧ W.cell? ⟨w.heap.size, 10, none⟩ = some (.int .i64 kd) ∧ W.cell? ⟨w.heap.size, 11, none⟩ = some (.int .i64 df)) ∧ Below W2.heap.size W2 W from fun W hb => ⟨(MK.out W (to_ HB2.out hb)).1, hb⟩)
      have HLC := Lib.hid (fun W (hb : Below W1.heap.size W1 W) => HL.out W hb (s[pos]'hp).toNat (opdV a b c n pos))
      have HON := Lib.hid (HOE.out pos)
      rw [if_pos HNA.out, ← hcL] at HON
      have HPS := Lib.hid (show pos < L.length from by have := HSZ.out; omega)
      have HPZ := Lib.hid (show s.size - W2.iterPos W1.heap.size < s.size - wr.iterPos W1.heap.size from by rw [hpos2, hpos0]; omega)
      clear hit hW2 hgl hx hit2 hpos2 hpos0 hcL
      generalize hcc : (s[pos]'hp).toNat = cc at hnx HLC HON
      clear hcc
      generalize lt9 cc (opdV a b c n pos) = y at HLC HON
      by_cases hy : y = 0
      · subst hy
        go_wp2_with fail
        refine wp_region_noPanic ?_
        refine wp_region_held_drew (S := fun W => (W.cell? ⟨w.heap.size, 0, none⟩ = some (.slice AK nK cK) ∧ W.cell? ⟨w.heap.size, 1, none⟩ = some (.int .i64 own) ∧ W.cell? ⟨w.heap.size, 2, none⟩ = some (.int .i64 o) ∧ W.cell? ⟨w.heap.size, 3, none⟩ = some (.int .i64 a) ∧ W.cell? ⟨w.heap.size, 4, none⟩ = some (.int .i64 b) ∧ W.cell? ⟨w.heap.size, 5, none⟩ = some (.int .i64 c) ∧ W.cell? ⟨w.heap.size, 6, none⟩ = some (.int .i64 n) ∧ W.cell? ⟨w.heap.size, 7, none⟩ = some (.string nm) ∧ W.cell? ⟨w.heap.size, 8, none⟩ = some (.bool loc) ∧ W.cell? ⟨w.heap.size, 9, none⟩ = some (.int .i64 so) ∧ W.cell? ⟨w.heap.size, 10, none⟩ = some (.int .i64 kd) ∧ W.cell? ⟨w.heap.size, 11, none⟩ = some (.int .i64 df)) ∧ Below W2.heap.size W2 W) (by kernel_rfl) (MK2.out _ (Below.refl _ _).drew) (fun hHeld => ?_)
        refine wpAnyH_take (i := 0) rfl (by kernel_rfl) (by kernel_rfl) (by kernel_rfl) (fun _ _ _ h => h) (Or.inl ⟨by rfl, by intro W hSW; (try dsimp only at hSW); go_simp; try (with_reducible rfl)⟩) hHeld ?_
        try simp only [Act.put, List.getElem_toArray, List.getElem_cons_zero, List.getElem_cons_succ, List.setIfInBounds_toArray, List.set_cons_zero, List.set_cons_succ]
        refine wpAnyH_take (i := 1) rfl (by kernel_rfl) (by kernel_rfl) (by kernel_rfl) (fun _ _ _ h => h) (Or.inl ⟨by rfl, by intro W hSW; (try dsimp only at hSW); go_simp; try (with_reducible rfl)⟩) hHeld ?_
        try simp only [Act.put, List.getElem_toArray, List.getElem_cons_zero, List.getElem_cons_succ, List.setIfInBounds_toArray, List.set_cons_zero, List.set_cons_succ]
        refine wpAnyH_take (i := 2) rfl (by kernel_rfl) (by kernel_rfl) (by kernel_rfl) (fun _ _ _ h => h) (Or.inl ⟨by rfl, by intro W hSW; (try dsimp only at hSW); go_simp; try (with_reducible rfl)⟩) hHeld ?_
        try simp only [Act.put, List.getElem_toArray, List.getElem_cons_zero, List.getElem_cons_succ, List.setIfInBounds_toArray, List.set_cons_zero, List.set_cons_succ]
        refine wpAnyH_take (i := 3) rfl (by kernel_rfl) (by kernel_rfl) (by kernel_rfl) (fun _ _ _ h => h) (Or.inl ⟨by rfl, by intro W hSW; (try dsimp only at hSW); go_simp; try (with_reducible rfl)⟩) hHeld ?_
        try simp only [Act.put, List.getElem_toArray, List.getElem_cons_zero, List.getElem_cons_succ, List.setIfInBounds_toArray, List.set_cons_zero, List.set_cons_succ]
        refine wpAnyH_take (i := 4) rfl (by kernel_rfl) (by kernel_rfl) (by kernel_rfl) (fun _ _ _ h => h) (Or.inl ⟨by rfl, by intro W hSW; (try dsimp only at hSW); go_simp; try (with_reducible rfl)⟩) hHeld ?_
        try simp only [Act.put, List.getElem_toArray, List.getElem_cons_zero, List.getElem_cons_succ, List.setIfInBounds_toArray, List.set_cons_zero, List.set_cons_succ]
        refine wpAnyH_ready (rs := [5]) (by kernel_rfl) (by simp) ?_
        refine AllReadyH.cons rfl (fun K hK => ?_) AllReadyH.nil
        go_simp
        refine (HO.out _ _).mono ?_
        rintro e w4 ⟨rfl, b4⟩
        have q4 := to_ hHeld.2 b4
        try go_wp2_with fail
        refine hK.out _ _ (MK2.out _ q4) ?_
        clear hK K hHeld
        intro hHeld
        clear b4 q4
        try simp only [Act.put, List.getElem_toArray, List.getElem_cons_zero, List.getElem_cons_succ, List.setIfInBounds_toArray, List.set_cons_zero, List.set_cons_succ]
        refine wpAnyH_ready (rs := [6]) (by kernel_rfl) (by simp) ?_
        refine AllReadyH.cons rfl (fun K hK => ?_) AllReadyH.nil
        go_simp
        refine (HLC.out _ (to_ HB2.out hHeld.2)).mono ?_
        rintro e w5 ⟨rfl, b5⟩
        have q5 := to_ hHeld.2 b5
        try go_wp2_with fail
        refine hK.out _ _ (MK2.out _ q5) ?_
        clear hK K hHeld
        intro hHeld
        have HB5 := Lib.hid q5
        clear b5 q5
        try simp only [Act.put, List.getElem_toArray, List.getElem_cons_zero, List.getElem_cons_succ, List.setIfInBounds_toArray, List.set_cons_zero, List.set_cons_succ]
        refine wpAnyH_take (i := 7) rfl (by kernel_rfl) (by kernel_rfl) (by kernel_rfl) (fun _ _ _ h => h) (Or.inl ⟨by rfl, by intro W hSW; (try dsimp only at hSW); go_simp; try (with_reducible rfl)⟩) hHeld ?_
        try simp only [Act.put, List.getElem_toArray, List.getElem_cons_zero, List.getElem_cons_succ, List.setIfInBounds_toArray, List.set_cons_zero, List.set_cons_succ]
        refine wpAnyH_done (by kernel_rfl) ?_ _
        refine NoPanic.normal ?_
        go_wp2_with fail
        go_roundw
        case rel => exact ⟨pos + 1, by omega, (HB5.out.block _ HLT.out).trans HIT.out, Lib.hid (to_ HB2.out HB5.out), HON⟩
        case measure =>
          have h9 : w5.iterPos W1.heap.size = W2.iterPos W1.heap.size := by
            rw [iterPos_of HIT.out, iterPos_of ((HB5.out.block _ HLT.out).trans HIT.out)]
          have := HPZ.out
          show s.size - w5.iterPos W1.heap.size < _
          rw [h9]; exact this
      · have hy1 : (y != 0) = true := by simpa using hy
        have hy2 : (y == 0) = false := by simpa using hy
        have HF := Lib.hid (show oe L.length = y from by rw [← HON.out]; exact HOF.out (pos + 1) (by rw [HON.out]; exact hy) _ (by have := HPS.out; omega))
        clear hy
        go_wp2_with fail
        refine wp_region_noPanic ?_
        refine wp_region_held_drew (S := fun W => (W.cell? ⟨w.heap.size, 0, none⟩ = some (.slice AK nK cK) ∧ W.cell? ⟨w.heap.size, 1, none⟩ = some (.int .i64 own) ∧ W.cell? ⟨w.heap.size, 2, none⟩ = some (.int .i64 o) ∧ W.cell? ⟨w.heap.size, 3, none⟩ = some (.int .i64 a) ∧ W.cell? ⟨w.heap.size, 4, none⟩ = some (.int .i64 b) ∧ W.cell? ⟨w.heap.size, 5, none⟩ = some (.int .i64 c) ∧ W.cell? ⟨w.heap.size, 6, none⟩ = some (.int .i64 n) ∧ W.cell? ⟨w.heap.size, 7, none⟩ = some (.string nm) ∧ W.cell? ⟨w.heap.size, 8, none⟩ = some (.bool loc) ∧ W.cell? ⟨w.heap.size, 9, none⟩ = some (.int .i64 so) ∧ W.cell? ⟨w.heap.size, 10, none⟩ = some (.int .i64 kd) ∧ W.cell? ⟨w.heap.size, 11, none⟩ = some (.int .i64 df)) ∧ Below W2.heap.size W2 W) (by kernel_rfl) (MK2.out _ (Below.refl _ _).drew) (fun hHeld => ?_)
        refine wpAnyH_take (i := 0) rfl (by kernel_rfl) (by kernel_rfl) (by kernel_rfl) (fun _ _ _ h => h) (Or.inl ⟨by rfl, by intro W hSW; (try dsimp only at hSW); go_simp; try (with_reducible rfl)⟩) hHeld ?_
        try simp only [Act.put, List.getElem_toArray, List.getElem_cons_zero, List.getElem_cons_succ, List.setIfInBounds_toArray, List.set_cons_zero, List.set_cons_succ]
        refine wpAnyH_take (i := 1) rfl (by kernel_rfl) (by kernel_rfl) (by kernel_rfl) (fun _ _ _ h => h) (Or.inl ⟨by rfl, by intro W hSW; (try dsimp only at hSW); go_simp; try (with_reducible rfl)⟩) hHeld ?_
        try simp only [Act.put, List.getElem_toArray, List.getElem_cons_zero, List.getElem_cons_succ, List.setIfInBounds_toArray, List.set_cons_zero, List.set_cons_succ]
        refine wpAnyH_take (i := 2) rfl (by kernel_rfl) (by kernel_rfl) (by kernel_rfl) (fun _ _ _ h => h) (Or.inl ⟨by rfl, by intro W hSW; (try dsimp only at hSW); go_simp; try (with_reducible rfl)⟩) hHeld ?_
        try simp only [Act.put, List.getElem_toArray, List.getElem_cons_zero, List.getElem_cons_succ, List.setIfInBounds_toArray, List.set_cons_zero, List.set_cons_succ]
        refine wpAnyH_take (i := 3) rfl (by kernel_rfl) (by kernel_rfl) (by kernel_rfl) (fun _ _ _ h => h) (Or.inl ⟨by rfl, by intro W hSW; (try dsimp only at hSW); go_simp; try (with_reducible rfl)⟩) hHeld ?_
        try simp only [Act.put, List.getElem_toArray, List.getElem_cons_zero, List.getElem_cons_succ, List.setIfInBounds_toArray, List.set_cons_zero, List.set_cons_succ]
        refine wpAnyH_take (i := 4) rfl (by kernel_rfl) (by kernel_rfl) (by kernel_rfl) (fun _ _ _ h => h) (Or.inl ⟨by rfl, by intro W hSW; (try dsimp only at hSW); go_simp; try (with_reducible rfl)⟩) hHeld ?_
        try simp only [Act.put, List.getElem_toArray, List.getElem_cons_zero, List.getElem_cons_succ, List.setIfInBounds_toArray, List.set_cons_zero, List.set_cons_succ]
        refine wpAnyH_ready (rs := [5]) (by kernel_rfl) (by simp) ?_
        refine AllReadyH.cons rfl (fun K hK => ?_) AllReadyH.nil
        go_simp
        refine (HO.out _ _).mono ?_
        rintro e w4 ⟨rfl, b4⟩
        have q4 := to_ hHeld.2 b4
        try go_wp2_with fail
        refine hK.out _ _ (MK2.out _ q4) ?_
        clear hK K hHeld
        intro hHeld
        clear b4 q4
        try simp only [Act.put, List.getElem_toArray, List.getElem_cons_zero, List.getElem_cons_succ, List.setIfInBounds_toArray, List.set_cons_zero, List.set_cons_succ]
        refine wpAnyH_ready (rs := [6]) (by kernel_rfl) (by simp) ?_
        refine AllReadyH.cons rfl (fun K hK => ?_) AllReadyH.nil
        go_simp
        refine (HLC.out _ (to_ HB2.out hHeld.2)).mono ?_
        rintro e w5 ⟨rfl, b5⟩
        have q5 := to_ hHeld.2 b5
        try go_wp2_with fail
        refine hK.out _ _ (MK2.out _ q5) ?_
        clear hK K hHeld
        intro hHeld
        have HB5 := Lib.hid q5
        clear b5 q5
        try simp only [Act.put, List.getElem_toArray, List.getElem_cons_zero, List.getElem_cons_succ, List.setIfInBounds_toArray, List.set_cons_zero, List.set_cons_succ]
        refine wpAnyH_take (i := 7) rfl (by kernel_rfl) (by kernel_rfl) (by kernel_rfl) (fun _ _ _ h => h) (Or.inl ⟨by rfl, by intro W hSW; (try dsimp only at hSW); go_simp; try (with_reducible rfl)⟩) hHeld ?_
        try simp only [Act.put, List.getElem_toArray, List.getElem_cons_zero, List.getElem_cons_succ, List.setIfInBounds_toArray, List.set_cons_zero, List.set_cons_succ]
        refine wpAnyH_done (by kernel_rfl) ?_ _
        refine NoPanic.normal ?_
        go_wp2_with fail
        go_ret
        exact ⟨by rw [HF.out]; rfl, to_ HB1.out (to_ HB2.out HB5.out)⟩
    · have hnx : ∀ ty, (Instr.next (.pointer (some ⟨W1.heap.size, 0, none⟩)) true ty).run Tryz.prog wr = _ := fun ty => Lib.run_next_end_at wr W1.heap.size s pos ty hit hp
      have HF := Lib.hid (show oe L.length = 0 from by rw [show L.length = pos from by have := HSZ.out; omega]; exact HNA.out)
      clear hit HNA hp hpos hpos0
      go_wp2_with fail
      go_ret
      exact ⟨by rw [HF.out]; rfl, to_ HB1.out HBX.out⟩
end Go.Proofs.YtbknmapkdjmcjaaGreatDoor.By
