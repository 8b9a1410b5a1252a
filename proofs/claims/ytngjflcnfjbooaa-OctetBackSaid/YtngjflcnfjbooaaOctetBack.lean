/-
  PROVED: what octet.Put and octet.Text laid is read by the reader as it was, for all numbers, widths and texts, whatever comes behind (P2.4). No condition.
-/
import Derived.Test.YtngjflcnfjbooaaRows
import Derived.WalkKit
import Derived.ProofKit
import Derived.OpenShut
import Derived.Lib.Hide
import Derived.Test.YtngjflcnfjbooaaBk
import Derived.Test.YtngjflcnfjbooaaAp
import Derived.ShutString
import Derived.ChangeOld
import Derived.Below
namespace Go.Proofs.Ytngjflcnfjbooaa.octetBack
open Go.ChangeShapes Go.WideShapes Go.ChangeAt Go.RowKit
open Go.ChangeMaps (open_string shut_string)
set_option linter.unusedVariables false

theorem own : ownKnob Try.prog.godebug = none := by kernel_rfl
theorem laidOut : laidOutB Try.prog = true := by kernel_rfl

/-- WHAT THE WALK IS TOLD OF A SLICE OF INTEGERS THAT CAME IN: it is nil; or it leads to a row of 'cap' cells, the numbers 'zs' (the first 'len' are its elements, the rest its spare room), each fitting its kind. -/
def IsRow (k : IntKind) (w : World) (a : Option Addr) (len cap : Nat) (zs : List Int) : Prop :=
  (a = none ∧ len = 0 ∧ cap = 0 ∧ zs = []) ∨
  ∃ x, a = some x ∧ len ≤ cap ∧ cap ≤ maxLen ∧ zs.length = cap ∧ (∀ i, i < zs.length → w.cell? (x.add i) = some (.int k (zs.getD i 0))) ∧ ∀ n ∈ zs, (Lit.int k n).wf = true

/-! ### STEP 1: THE WALK: the Go text returns true, AND WRITES NOTHING THAT WAS THERE: 'Below w.heap.size w w'' (Derived/Below.lean: '.refl', '.alloc', '.drew', '.setCell' at a new block, '.trans'). Open each 'IsRow' by 'rcases' AHEAD of 'go_enter'; part every test ahead of the walk. -/
set_option maxHeartbeats 8000000 in
theorem walk (a0 : Int) (a1 : Int) (a2 : ByteArray) (a3 : Option Addr) (len3 cap3 : Nat) (z3 : List Int) (w : World) (w0 : (Lit.int .i64 a0).wf = true) (w1 : (Lit.int .i64 a1).wf = true) (w2 : a2.size ≤ maxLen) (w3 : IsRow .u8 w a3 len3 cap3 z3) :
    Calls Try.prog 9 #[.int .i64 a0, .int .i64 a1, .string a2, .slice a3 len3 cap3] w fun e w' => e = .returned (.bool true) ∧ Below w.heap.size w w' := by
  obtain ⟨l, hll, hsl⟩ := By.slv_of_row w3
  clear w3
  by_cases hbad : a1 < 1 ∨ 8 < a1 ∨ 255 < a2.size ∨ 100 < len3
  · have HK := Lib.hid By.known_any
    clear hsl hll w0 w1 w2
    have hd : (a1 < 1) ∨ (¬ a1 < 1 ∧ decide (a1 < 1) = false ∧ decide (8 < a1) = true) ∨ (¬ a1 < 1 ∧ decide (a1 < 1) = false ∧ decide (8 < a1) = false ∧ decide (255 < (a2.size : Int)) = true) ∨ (¬ a1 < 1 ∧ decide (a1 < 1) = false ∧ decide (8 < a1) = false ∧ decide (255 < (a2.size : Int)) = false ∧ decide (100 < (len3 : Int)) = true) := by
      simp only [decide_eq_true_eq, decide_eq_false_iff_not]
      omega
    clear hbad
    rcases hd with hd | ⟨hd, d1, d2⟩ | ⟨hd, d1, d2, d3⟩ | ⟨hd, d1, d2, d3, d4⟩
    all_goals
      go_enter Try.func9, Try.ntmps9
      go_wp2_with fail
      refine (HK.out _).mono ?_
      rintro e w1 ⟨rfl, hb⟩
      go_wp2_with fail
      go_ret
      exact ⟨rfl, hb⟩
  · have d3 : decide (255 < (a2.size : Int)) = false := by simp; omega
    have d4 : decide (100 < (len3 : Int)) = false := by simp; omega
    have hs255 : a2.size ≤ 255 := by omega
    have hl100 : len3 ≤ 100 := by omega
    have hw : a1 = 1 ∨ a1 = 2 ∨ a1 = 3 ∨ a1 = 4 ∨ a1 = 5 ∨ a1 = 6 ∨ a1 = 7 ∨ a1 = 8 := by omega
    clear hbad w0 w1
    have hus := By.u8s_one
    have HUS := Lib.hid hus
    have HSL := Lib.hid hsl
    have HLL := Lib.hid hll
    have hll2 : l.length ≤ 100 := by omega
    obtain ⟨i0, hi, hz0, hz1, hz2⟩ := info_parts By.info5
    have HSZ := Lib.hid w2
    clear hus hsl hll w2
    rcases hw with rfl | rfl | rfl | rfl | rfl | rfl | rfl | rfl
    · have hf := By.room0 a0
      go_enter Try.func9, Try.ntmps9
      go_wp2_with fail
      generalize wrap64 (a0 * 72057594037927936) / 72057594037927936 = x at hf ⊢
      have HF := Lib.hid hf
      clear hf
      have HW := Lib.hid (By.whole_num x 0 a2 l (by omega) HF.out.1 HF.out.2)
      have HT := Lib.hid (By.whole_text x 1 a2 l hs255)
      have HLN := Lib.hid (By.whole_length x 1 a2 l)
      have hp := By.put_any (.slice none 0 0) [] x 1 w .nil (by simp) (by simp)
      rw [List.nil_append, show By.putB x 1 = By.be x 1 from By.putB_lit x 0 (by omega)] at hp
      have HP := Lib.hid hp
      clear hp
      refine HP.out.mono ?_
      rintro e u1 ⟨v1, rfl, hown1, hb1⟩
      have HX := Lib.hid (By.text_any v1 (By.u8s (By.be x 1)) a2 u1 (Mem.SlV.of_own hown1) (HUS.out _) (by rw [By.u8s_length, By.be_length]; omega) HSZ.out)
      have HB1 := Lib.hid hb1
      clear hown1 hb1 HP
      go_wp2_with fail
      refine HX.out.mono ?_
      rintro e u2 ⟨v2, rfl, hown2, hb2⟩
      rw [← By.u8s_append] at hown2
      have HO2 := Lib.hid hown2
      have HB2 := Lib.hid (HB1.out.trans (hb2.mono HB1.out.size))
      have hsz1 := HB1.out.size
      have hsz2 := hb2.size
      have c2 : (By.u8s (By.be x 1 ++ By.textB a2)).length + (By.u8s l).length ≤ maxLen := by
        have := By.textB_length a2
        rw [By.u8s_length, By.u8s_length, List.length_append, By.be_length]; unfold maxLen; omega
      have c3 : ((By.u8s (By.be x 1 ++ By.textB a2)).length + (By.u8s l).length) * 1 ≤ 140737488355328 := by
        have := By.textB_length a2
        rw [By.u8s_length, By.u8s_length, List.length_append, By.be_length]; omega
      have HS2 := Lib.hid (HSL.out.below HB2.out)
      clear hown2 hb2 HX HB1
      go_wp2_with (at_builtin; go_must (refine Mem.wpList_append_slv _ rfl (.tmp 43) (.tmp 44) _ rfl u1.heap.size 5 i0 (.int .u8 0) 1 Try.underlying32 hi hz0 hz1 hz2 rfl v2 _ rfl HO2.out w.heap.size (.slice a3 len3 cap3) (By.u8s l) rfl HS2.out (HUS.out l) c2 c3 hsz2 ?_); intro v3 w3 hown3 hg3)
      have HB3 := Lib.hid (HB2.out.grown hg3 (by omega) (fun q hq => by have := (HO2.out.lt q hq).1; omega))
      have hsl3 := Mem.SlV.of_own hown3
      rw [← By.u8s_append, show By.be x 1 ++ By.textB a2 ++ l = By.whole x 1 a2 l from by rw [By.textB_short a2 hs255]; rfl] at hsl3
      have HN := Lib.hid (By.new_any v3 (By.whole x 1 a2 l) w3 _ hsl3 (by rw [By.whole_length]; omega))
      clear hown3 hg3 hsl3 c2 c3 HS2 HO2 HB2 hsz2
      refine HN.out.mono ?_
      rintro e u4 ⟨g, A, c, rfl, hg, hr4, hb4⟩
      have hg0 : w.heap.size ≤ g := Nat.le_trans HB3.out.size hg
      have HB4 := Lib.hid (HB3.out.trans (hb4.mono HB3.out.size))
      have hg4 := hr4.blk.lt
      have HG := By.signed_any u4 g A c _ 0 true hr4 1
      unfold By.Read at HG
      rw [show By.readV true (By.whole x 1 a2 l) 0 true 1 = x from HW.out.1, show By.readP (By.whole x 1 a2 l) 0 true 1 = 1 from HW.out.2.1, show By.fitsB (By.whole x 1 a2 l) 0 true 1 = true from HW.out.2.2] at HG
      have HG2 := Lib.hid HG
      clear HG hr4 hb4 hg HN HB3
      go_wp2_with fail
      refine HG2.out.mono ?_
      rintro e u5 ⟨rfl, hr5, ho5⟩
      have HB5 := Lib.hid (Mem.below_of_only HB4.out ho5 (by omega) hg0)
      have HTX := By.text_read u5 g A c _ 1 true hr5 255
      have hg5 := hr5.blk.lt
      unfold By.ReadT at HTX
      rw [HT.out.1, HT.out.2.1, HT.out.2.2, By.same_text] at HTX
      have HTX2 := Lib.hid HTX
      clear HTX hr5 ho5 HB4 HG2
      go_wp2_with fail
      refine HTX2.out.mono ?_
      rintro e u6 ⟨rfl, hr6, ho6⟩
      have HB6 := Lib.hid (Mem.below_of_only HB5.out ho6 (by omega) hg0)
      have HR6 := Lib.hid hr6
      have HLE := Lib.hid (show ((By.whole x 1 a2 l).length : Int) - (1 + (1 + a2.size) : Nat) = len3 by rw [HLN.out, ← HLL.out]; omega)
      clear hr6 ho6 HB5 HTX2
      go_wp2_with fail
      refine (By.left_any u6 g A c _ _ true HR6.out).mono ?_
      rintro e u7 ⟨rfl, q7, rfl⟩
      rw [HLE.out]
      have HR7 := Lib.hid (HR6.out.drewN q7)
      go_wp2_with fail
      refine (By.bad_any _ g A c _ _ true HR7.out).mono ?_
      rintro e u8 ⟨rfl, rfl⟩
      go_wp2_with fail
      refine (By.known_any _).mono ?_
      rintro e u9 ⟨rfl, hb9⟩
      go_wp2_with fail
      go_ret
      exact ⟨rfl, (Mem.below_drewN HB6.out q7).trans (hb9.mono (by have := HB6.out.size; simpa using this))⟩
    · have hf := By.room1 a0
      go_enter Try.func9, Try.ntmps9
      go_wp2_with fail
      generalize wrap64 (a0 * 281474976710656) / 281474976710656 = x at hf ⊢
      have HF := Lib.hid hf
      clear hf
      have HW := Lib.hid (By.whole_num x 1 a2 l (by omega) HF.out.1 HF.out.2)
      have HT := Lib.hid (By.whole_text x 2 a2 l hs255)
      have HLN := Lib.hid (By.whole_length x 2 a2 l)
      have hp := By.put_any (.slice none 0 0) [] x 2 w .nil (by simp) (by simp)
      rw [List.nil_append, show By.putB x 2 = By.be x 2 from By.putB_lit x 1 (by omega)] at hp
      have HP := Lib.hid hp
      clear hp
      refine HP.out.mono ?_
      rintro e u1 ⟨v1, rfl, hown1, hb1⟩
      have HX := Lib.hid (By.text_any v1 (By.u8s (By.be x 2)) a2 u1 (Mem.SlV.of_own hown1) (HUS.out _) (by rw [By.u8s_length, By.be_length]; omega) HSZ.out)
      have HB1 := Lib.hid hb1
      clear hown1 hb1 HP
      go_wp2_with fail
      refine HX.out.mono ?_
      rintro e u2 ⟨v2, rfl, hown2, hb2⟩
      rw [← By.u8s_append] at hown2
      have HO2 := Lib.hid hown2
      have HB2 := Lib.hid (HB1.out.trans (hb2.mono HB1.out.size))
      have hsz1 := HB1.out.size
      have hsz2 := hb2.size
      have c2 : (By.u8s (By.be x 2 ++ By.textB a2)).length + (By.u8s l).length ≤ maxLen := by
        have := By.textB_length a2
        rw [By.u8s_length, By.u8s_length, List.length_append, By.be_length]; unfold maxLen; omega
      have c3 : ((By.u8s (By.be x 2 ++ By.textB a2)).length + (By.u8s l).length) * 1 ≤ 140737488355328 := by
        have := By.textB_length a2
        rw [By.u8s_length, By.u8s_length, List.length_append, By.be_length]; omega
      have HS2 := Lib.hid (HSL.out.below HB2.out)
      clear hown2 hb2 HX HB1
      go_wp2_with (at_builtin; go_must (refine Mem.wpList_append_slv _ rfl (.tmp 43) (.tmp 44) _ rfl u1.heap.size 5 i0 (.int .u8 0) 1 Try.underlying32 hi hz0 hz1 hz2 rfl v2 _ rfl HO2.out w.heap.size (.slice a3 len3 cap3) (By.u8s l) rfl HS2.out (HUS.out l) c2 c3 hsz2 ?_); intro v3 w3 hown3 hg3)
      have HB3 := Lib.hid (HB2.out.grown hg3 (by omega) (fun q hq => by have := (HO2.out.lt q hq).1; omega))
      have hsl3 := Mem.SlV.of_own hown3
      rw [← By.u8s_append, show By.be x 2 ++ By.textB a2 ++ l = By.whole x 2 a2 l from by rw [By.textB_short a2 hs255]; rfl] at hsl3
      have HN := Lib.hid (By.new_any v3 (By.whole x 2 a2 l) w3 _ hsl3 (by rw [By.whole_length]; omega))
      clear hown3 hg3 hsl3 c2 c3 HS2 HO2 HB2 hsz2
      refine HN.out.mono ?_
      rintro e u4 ⟨g, A, c, rfl, hg, hr4, hb4⟩
      have hg0 : w.heap.size ≤ g := Nat.le_trans HB3.out.size hg
      have HB4 := Lib.hid (HB3.out.trans (hb4.mono HB3.out.size))
      have hg4 := hr4.blk.lt
      have HG := By.signed_any u4 g A c _ 0 true hr4 2
      unfold By.Read at HG
      rw [show By.readV true (By.whole x 2 a2 l) 0 true 2 = x from HW.out.1, show By.readP (By.whole x 2 a2 l) 0 true 2 = 2 from HW.out.2.1, show By.fitsB (By.whole x 2 a2 l) 0 true 2 = true from HW.out.2.2] at HG
      have HG2 := Lib.hid HG
      clear HG hr4 hb4 hg HN HB3
      go_wp2_with fail
      refine HG2.out.mono ?_
      rintro e u5 ⟨rfl, hr5, ho5⟩
      have HB5 := Lib.hid (Mem.below_of_only HB4.out ho5 (by omega) hg0)
      have HTX := By.text_read u5 g A c _ 2 true hr5 255
      have hg5 := hr5.blk.lt
      unfold By.ReadT at HTX
      rw [HT.out.1, HT.out.2.1, HT.out.2.2, By.same_text] at HTX
      have HTX2 := Lib.hid HTX
      clear HTX hr5 ho5 HB4 HG2
      go_wp2_with fail
      refine HTX2.out.mono ?_
      rintro e u6 ⟨rfl, hr6, ho6⟩
      have HB6 := Lib.hid (Mem.below_of_only HB5.out ho6 (by omega) hg0)
      have HR6 := Lib.hid hr6
      have HLE := Lib.hid (show ((By.whole x 2 a2 l).length : Int) - (2 + (1 + a2.size) : Nat) = len3 by rw [HLN.out, ← HLL.out]; omega)
      clear hr6 ho6 HB5 HTX2
      go_wp2_with fail
      refine (By.left_any u6 g A c _ _ true HR6.out).mono ?_
      rintro e u7 ⟨rfl, q7, rfl⟩
      rw [HLE.out]
      have HR7 := Lib.hid (HR6.out.drewN q7)
      go_wp2_with fail
      refine (By.bad_any _ g A c _ _ true HR7.out).mono ?_
      rintro e u8 ⟨rfl, rfl⟩
      go_wp2_with fail
      refine (By.known_any _).mono ?_
      rintro e u9 ⟨rfl, hb9⟩
      go_wp2_with fail
      go_ret
      exact ⟨rfl, (Mem.below_drewN HB6.out q7).trans (hb9.mono (by have := HB6.out.size; simpa using this))⟩
    · have hf := By.room2 a0
      go_enter Try.func9, Try.ntmps9
      go_wp2_with fail
      generalize wrap64 (a0 * 1099511627776) / 1099511627776 = x at hf ⊢
      have HF := Lib.hid hf
      clear hf
      have HW := Lib.hid (By.whole_num x 2 a2 l (by omega) HF.out.1 HF.out.2)
      have HT := Lib.hid (By.whole_text x 3 a2 l hs255)
      have HLN := Lib.hid (By.whole_length x 3 a2 l)
      have hp := By.put_any (.slice none 0 0) [] x 3 w .nil (by simp) (by simp)
      rw [List.nil_append, show By.putB x 3 = By.be x 3 from By.putB_lit x 2 (by omega)] at hp
      have HP := Lib.hid hp
      clear hp
      refine HP.out.mono ?_
      rintro e u1 ⟨v1, rfl, hown1, hb1⟩
      have HX := Lib.hid (By.text_any v1 (By.u8s (By.be x 3)) a2 u1 (Mem.SlV.of_own hown1) (HUS.out _) (by rw [By.u8s_length, By.be_length]; omega) HSZ.out)
      have HB1 := Lib.hid hb1
      clear hown1 hb1 HP
      go_wp2_with fail
      refine HX.out.mono ?_
      rintro e u2 ⟨v2, rfl, hown2, hb2⟩
      rw [← By.u8s_append] at hown2
      have HO2 := Lib.hid hown2
      have HB2 := Lib.hid (HB1.out.trans (hb2.mono HB1.out.size))
      have hsz1 := HB1.out.size
      have hsz2 := hb2.size
      have c2 : (By.u8s (By.be x 3 ++ By.textB a2)).length + (By.u8s l).length ≤ maxLen := by
        have := By.textB_length a2
        rw [By.u8s_length, By.u8s_length, List.length_append, By.be_length]; unfold maxLen; omega
      have c3 : ((By.u8s (By.be x 3 ++ By.textB a2)).length + (By.u8s l).length) * 1 ≤ 140737488355328 := by
        have := By.textB_length a2
        rw [By.u8s_length, By.u8s_length, List.length_append, By.be_length]; omega
      have HS2 := Lib.hid (HSL.out.below HB2.out)
      clear hown2 hb2 HX HB1
      go_wp2_with (at_builtin; go_must (refine Mem.wpList_append_slv _ rfl (.tmp 43) (.tmp 44) _ rfl u1.heap.size 5 i0 (.int .u8 0) 1 Try.underlying32 hi hz0 hz1 hz2 rfl v2 _ rfl HO2.out w.heap.size (.slice a3 len3 cap3) (By.u8s l) rfl HS2.out (HUS.out l) c2 c3 hsz2 ?_); intro v3 w3 hown3 hg3)
      have HB3 := Lib.hid (HB2.out.grown hg3 (by omega) (fun q hq => by have := (HO2.out.lt q hq).1; omega))
      have hsl3 := Mem.SlV.of_own hown3
      rw [← By.u8s_append, show By.be x 3 ++ By.textB a2 ++ l = By.whole x 3 a2 l from by rw [By.textB_short a2 hs255]; rfl] at hsl3
      have HN := Lib.hid (By.new_any v3 (By.whole x 3 a2 l) w3 _ hsl3 (by rw [By.whole_length]; omega))
      clear hown3 hg3 hsl3 c2 c3 HS2 HO2 HB2 hsz2
      refine HN.out.mono ?_
      rintro e u4 ⟨g, A, c, rfl, hg, hr4, hb4⟩
      have hg0 : w.heap.size ≤ g := Nat.le_trans HB3.out.size hg
      have HB4 := Lib.hid (HB3.out.trans (hb4.mono HB3.out.size))
      have hg4 := hr4.blk.lt
      have HG := By.signed_any u4 g A c _ 0 true hr4 3
      unfold By.Read at HG
      rw [show By.readV true (By.whole x 3 a2 l) 0 true 3 = x from HW.out.1, show By.readP (By.whole x 3 a2 l) 0 true 3 = 3 from HW.out.2.1, show By.fitsB (By.whole x 3 a2 l) 0 true 3 = true from HW.out.2.2] at HG
      have HG2 := Lib.hid HG
      clear HG hr4 hb4 hg HN HB3
      go_wp2_with fail
      refine HG2.out.mono ?_
      rintro e u5 ⟨rfl, hr5, ho5⟩
      have HB5 := Lib.hid (Mem.below_of_only HB4.out ho5 (by omega) hg0)
      have HTX := By.text_read u5 g A c _ 3 true hr5 255
      have hg5 := hr5.blk.lt
      unfold By.ReadT at HTX
      rw [HT.out.1, HT.out.2.1, HT.out.2.2, By.same_text] at HTX
      have HTX2 := Lib.hid HTX
      clear HTX hr5 ho5 HB4 HG2
      go_wp2_with fail
      refine HTX2.out.mono ?_
      rintro e u6 ⟨rfl, hr6, ho6⟩
      have HB6 := Lib.hid (Mem.below_of_only HB5.out ho6 (by omega) hg0)
      have HR6 := Lib.hid hr6
      have HLE := Lib.hid (show ((By.whole x 3 a2 l).length : Int) - (3 + (1 + a2.size) : Nat) = len3 by rw [HLN.out, ← HLL.out]; omega)
      clear hr6 ho6 HB5 HTX2
      go_wp2_with fail
      refine (By.left_any u6 g A c _ _ true HR6.out).mono ?_
      rintro e u7 ⟨rfl, q7, rfl⟩
      rw [HLE.out]
      have HR7 := Lib.hid (HR6.out.drewN q7)
      go_wp2_with fail
      refine (By.bad_any _ g A c _ _ true HR7.out).mono ?_
      rintro e u8 ⟨rfl, rfl⟩
      go_wp2_with fail
      refine (By.known_any _).mono ?_
      rintro e u9 ⟨rfl, hb9⟩
      go_wp2_with fail
      go_ret
      exact ⟨rfl, (Mem.below_drewN HB6.out q7).trans (hb9.mono (by have := HB6.out.size; simpa using this))⟩
    · have hf := By.room3 a0
      go_enter Try.func9, Try.ntmps9
      go_wp2_with fail
      generalize wrap64 (a0 * 4294967296) / 4294967296 = x at hf ⊢
      have HF := Lib.hid hf
      clear hf
      have HW := Lib.hid (By.whole_num x 3 a2 l (by omega) HF.out.1 HF.out.2)
      have HT := Lib.hid (By.whole_text x 4 a2 l hs255)
      have HLN := Lib.hid (By.whole_length x 4 a2 l)
      have hp := By.put_any (.slice none 0 0) [] x 4 w .nil (by simp) (by simp)
      rw [List.nil_append, show By.putB x 4 = By.be x 4 from By.putB_lit x 3 (by omega)] at hp
      have HP := Lib.hid hp
      clear hp
      refine HP.out.mono ?_
      rintro e u1 ⟨v1, rfl, hown1, hb1⟩
      have HX := Lib.hid (By.text_any v1 (By.u8s (By.be x 4)) a2 u1 (Mem.SlV.of_own hown1) (HUS.out _) (by rw [By.u8s_length, By.be_length]; omega) HSZ.out)
      have HB1 := Lib.hid hb1
      clear hown1 hb1 HP
      go_wp2_with fail
      refine HX.out.mono ?_
      rintro e u2 ⟨v2, rfl, hown2, hb2⟩
      rw [← By.u8s_append] at hown2
      have HO2 := Lib.hid hown2
      have HB2 := Lib.hid (HB1.out.trans (hb2.mono HB1.out.size))
      have hsz1 := HB1.out.size
      have hsz2 := hb2.size
      have c2 : (By.u8s (By.be x 4 ++ By.textB a2)).length + (By.u8s l).length ≤ maxLen := by
        have := By.textB_length a2
        rw [By.u8s_length, By.u8s_length, List.length_append, By.be_length]; unfold maxLen; omega
      have c3 : ((By.u8s (By.be x 4 ++ By.textB a2)).length + (By.u8s l).length) * 1 ≤ 140737488355328 := by
        have := By.textB_length a2
        rw [By.u8s_length, By.u8s_length, List.length_append, By.be_length]; omega
      have HS2 := Lib.hid (HSL.out.below HB2.out)
      clear hown2 hb2 HX HB1
      go_wp2_with (at_builtin; go_must (refine Mem.wpList_append_slv _ rfl (.tmp 43) (.tmp 44) _ rfl u1.heap.size 5 i0 (.int .u8 0) 1 Try.underlying32 hi hz0 hz1 hz2 rfl v2 _ rfl HO2.out w.heap.size (.slice a3 len3 cap3) (By.u8s l) rfl HS2.out (HUS.out l) c2 c3 hsz2 ?_); intro v3 w3 hown3 hg3)
      have HB3 := Lib.hid (HB2.out.grown hg3 (by omega) (fun q hq => by have := (HO2.out.lt q hq).1; omega))
      have hsl3 := Mem.SlV.of_own hown3
      rw [← By.u8s_append, show By.be x 4 ++ By.textB a2 ++ l = By.whole x 4 a2 l from by rw [By.textB_short a2 hs255]; rfl] at hsl3
      have HN := Lib.hid (By.new_any v3 (By.whole x 4 a2 l) w3 _ hsl3 (by rw [By.whole_length]; omega))
      clear hown3 hg3 hsl3 c2 c3 HS2 HO2 HB2 hsz2
      refine HN.out.mono ?_
      rintro e u4 ⟨g, A, c, rfl, hg, hr4, hb4⟩
      have hg0 : w.heap.size ≤ g := Nat.le_trans HB3.out.size hg
      have HB4 := Lib.hid (HB3.out.trans (hb4.mono HB3.out.size))
      have hg4 := hr4.blk.lt
      have HG := By.signed_any u4 g A c _ 0 true hr4 4
      unfold By.Read at HG
      rw [show By.readV true (By.whole x 4 a2 l) 0 true 4 = x from HW.out.1, show By.readP (By.whole x 4 a2 l) 0 true 4 = 4 from HW.out.2.1, show By.fitsB (By.whole x 4 a2 l) 0 true 4 = true from HW.out.2.2] at HG
      have HG2 := Lib.hid HG
      clear HG hr4 hb4 hg HN HB3
      go_wp2_with fail
      refine HG2.out.mono ?_
      rintro e u5 ⟨rfl, hr5, ho5⟩
      have HB5 := Lib.hid (Mem.below_of_only HB4.out ho5 (by omega) hg0)
      have HTX := By.text_read u5 g A c _ 4 true hr5 255
      have hg5 := hr5.blk.lt
      unfold By.ReadT at HTX
      rw [HT.out.1, HT.out.2.1, HT.out.2.2, By.same_text] at HTX
      have HTX2 := Lib.hid HTX
      clear HTX hr5 ho5 HB4 HG2
      go_wp2_with fail
      refine HTX2.out.mono ?_
      rintro e u6 ⟨rfl, hr6, ho6⟩
      have HB6 := Lib.hid (Mem.below_of_only HB5.out ho6 (by omega) hg0)
      have HR6 := Lib.hid hr6
      have HLE := Lib.hid (show ((By.whole x 4 a2 l).length : Int) - (4 + (1 + a2.size) : Nat) = len3 by rw [HLN.out, ← HLL.out]; omega)
      clear hr6 ho6 HB5 HTX2
      go_wp2_with fail
      refine (By.left_any u6 g A c _ _ true HR6.out).mono ?_
      rintro e u7 ⟨rfl, q7, rfl⟩
      rw [HLE.out]
      have HR7 := Lib.hid (HR6.out.drewN q7)
      go_wp2_with fail
      refine (By.bad_any _ g A c _ _ true HR7.out).mono ?_
      rintro e u8 ⟨rfl, rfl⟩
      go_wp2_with fail
      refine (By.known_any _).mono ?_
      rintro e u9 ⟨rfl, hb9⟩
      go_wp2_with fail
      go_ret
      exact ⟨rfl, (Mem.below_drewN HB6.out q7).trans (hb9.mono (by have := HB6.out.size; simpa using this))⟩
    · have hf := By.room4 a0
      go_enter Try.func9, Try.ntmps9
      go_wp2_with fail
      generalize wrap64 (a0 * 16777216) / 16777216 = x at hf ⊢
      have HF := Lib.hid hf
      clear hf
      have HW := Lib.hid (By.whole_num x 4 a2 l (by omega) HF.out.1 HF.out.2)
      have HT := Lib.hid (By.whole_text x 5 a2 l hs255)
      have HLN := Lib.hid (By.whole_length x 5 a2 l)
      have hp := By.put_any (.slice none 0 0) [] x 5 w .nil (by simp) (by simp)
      rw [List.nil_append, show By.putB x 5 = By.be x 5 from By.putB_lit x 4 (by omega)] at hp
      have HP := Lib.hid hp
      clear hp
      refine HP.out.mono ?_
      rintro e u1 ⟨v1, rfl, hown1, hb1⟩
      have HX := Lib.hid (By.text_any v1 (By.u8s (By.be x 5)) a2 u1 (Mem.SlV.of_own hown1) (HUS.out _) (by rw [By.u8s_length, By.be_length]; omega) HSZ.out)
      have HB1 := Lib.hid hb1
      clear hown1 hb1 HP
      go_wp2_with fail
      refine HX.out.mono ?_
      rintro e u2 ⟨v2, rfl, hown2, hb2⟩
      rw [← By.u8s_append] at hown2
      have HO2 := Lib.hid hown2
      have HB2 := Lib.hid (HB1.out.trans (hb2.mono HB1.out.size))
      have hsz1 := HB1.out.size
      have hsz2 := hb2.size
      have c2 : (By.u8s (By.be x 5 ++ By.textB a2)).length + (By.u8s l).length ≤ maxLen := by
        have := By.textB_length a2
        rw [By.u8s_length, By.u8s_length, List.length_append, By.be_length]; unfold maxLen; omega
      have c3 : ((By.u8s (By.be x 5 ++ By.textB a2)).length + (By.u8s l).length) * 1 ≤ 140737488355328 := by
        have := By.textB_length a2
        rw [By.u8s_length, By.u8s_length, List.length_append, By.be_length]; omega
      have HS2 := Lib.hid (HSL.out.below HB2.out)
      clear hown2 hb2 HX HB1
      go_wp2_with (at_builtin; go_must (refine Mem.wpList_append_slv _ rfl (.tmp 43) (.tmp 44) _ rfl u1.heap.size 5 i0 (.int .u8 0) 1 Try.underlying32 hi hz0 hz1 hz2 rfl v2 _ rfl HO2.out w.heap.size (.slice a3 len3 cap3) (By.u8s l) rfl HS2.out (HUS.out l) c2 c3 hsz2 ?_); intro v3 w3 hown3 hg3)
      have HB3 := Lib.hid (HB2.out.grown hg3 (by omega) (fun q hq => by have := (HO2.out.lt q hq).1; omega))
      have hsl3 := Mem.SlV.of_own hown3
      rw [← By.u8s_append, show By.be x 5 ++ By.textB a2 ++ l = By.whole x 5 a2 l from by rw [By.textB_short a2 hs255]; rfl] at hsl3
      have HN := Lib.hid (By.new_any v3 (By.whole x 5 a2 l) w3 _ hsl3 (by rw [By.whole_length]; omega))
      clear hown3 hg3 hsl3 c2 c3 HS2 HO2 HB2 hsz2
      refine HN.out.mono ?_
      rintro e u4 ⟨g, A, c, rfl, hg, hr4, hb4⟩
      have hg0 : w.heap.size ≤ g := Nat.le_trans HB3.out.size hg
      have HB4 := Lib.hid (HB3.out.trans (hb4.mono HB3.out.size))
      have hg4 := hr4.blk.lt
      have HG := By.signed_any u4 g A c _ 0 true hr4 5
      unfold By.Read at HG
      rw [show By.readV true (By.whole x 5 a2 l) 0 true 5 = x from HW.out.1, show By.readP (By.whole x 5 a2 l) 0 true 5 = 5 from HW.out.2.1, show By.fitsB (By.whole x 5 a2 l) 0 true 5 = true from HW.out.2.2] at HG
      have HG2 := Lib.hid HG
      clear HG hr4 hb4 hg HN HB3
      go_wp2_with fail
      refine HG2.out.mono ?_
      rintro e u5 ⟨rfl, hr5, ho5⟩
      have HB5 := Lib.hid (Mem.below_of_only HB4.out ho5 (by omega) hg0)
      have HTX := By.text_read u5 g A c _ 5 true hr5 255
      have hg5 := hr5.blk.lt
      unfold By.ReadT at HTX
      rw [HT.out.1, HT.out.2.1, HT.out.2.2, By.same_text] at HTX
      have HTX2 := Lib.hid HTX
      clear HTX hr5 ho5 HB4 HG2
      go_wp2_with fail
      refine HTX2.out.mono ?_
      rintro e u6 ⟨rfl, hr6, ho6⟩
      have HB6 := Lib.hid (Mem.below_of_only HB5.out ho6 (by omega) hg0)
      have HR6 := Lib.hid hr6
      have HLE := Lib.hid (show ((By.whole x 5 a2 l).length : Int) - (5 + (1 + a2.size) : Nat) = len3 by rw [HLN.out, ← HLL.out]; omega)
      clear hr6 ho6 HB5 HTX2
      go_wp2_with fail
      refine (By.left_any u6 g A c _ _ true HR6.out).mono ?_
      rintro e u7 ⟨rfl, q7, rfl⟩
      rw [HLE.out]
      have HR7 := Lib.hid (HR6.out.drewN q7)
      go_wp2_with fail
      refine (By.bad_any _ g A c _ _ true HR7.out).mono ?_
      rintro e u8 ⟨rfl, rfl⟩
      go_wp2_with fail
      refine (By.known_any _).mono ?_
      rintro e u9 ⟨rfl, hb9⟩
      go_wp2_with fail
      go_ret
      exact ⟨rfl, (Mem.below_drewN HB6.out q7).trans (hb9.mono (by have := HB6.out.size; simpa using this))⟩
    · have hf := By.room5 a0
      go_enter Try.func9, Try.ntmps9
      go_wp2_with fail
      generalize wrap64 (a0 * 65536) / 65536 = x at hf ⊢
      have HF := Lib.hid hf
      clear hf
      have HW := Lib.hid (By.whole_num x 5 a2 l (by omega) HF.out.1 HF.out.2)
      have HT := Lib.hid (By.whole_text x 6 a2 l hs255)
      have HLN := Lib.hid (By.whole_length x 6 a2 l)
      have hp := By.put_any (.slice none 0 0) [] x 6 w .nil (by simp) (by simp)
      rw [List.nil_append, show By.putB x 6 = By.be x 6 from By.putB_lit x 5 (by omega)] at hp
      have HP := Lib.hid hp
      clear hp
      refine HP.out.mono ?_
      rintro e u1 ⟨v1, rfl, hown1, hb1⟩
      have HX := Lib.hid (By.text_any v1 (By.u8s (By.be x 6)) a2 u1 (Mem.SlV.of_own hown1) (HUS.out _) (by rw [By.u8s_length, By.be_length]; omega) HSZ.out)
      have HB1 := Lib.hid hb1
      clear hown1 hb1 HP
      go_wp2_with fail
      refine HX.out.mono ?_
      rintro e u2 ⟨v2, rfl, hown2, hb2⟩
      rw [← By.u8s_append] at hown2
      have HO2 := Lib.hid hown2
      have HB2 := Lib.hid (HB1.out.trans (hb2.mono HB1.out.size))
      have hsz1 := HB1.out.size
      have hsz2 := hb2.size
      have c2 : (By.u8s (By.be x 6 ++ By.textB a2)).length + (By.u8s l).length ≤ maxLen := by
        have := By.textB_length a2
        rw [By.u8s_length, By.u8s_length, List.length_append, By.be_length]; unfold maxLen; omega
      have c3 : ((By.u8s (By.be x 6 ++ By.textB a2)).length + (By.u8s l).length) * 1 ≤ 140737488355328 := by
        have := By.textB_length a2
        rw [By.u8s_length, By.u8s_length, List.length_append, By.be_length]; omega
      have HS2 := Lib.hid (HSL.out.below HB2.out)
      clear hown2 hb2 HX HB1
      go_wp2_with (at_builtin; go_must (refine Mem.wpList_append_slv _ rfl (.tmp 43) (.tmp 44) _ rfl u1.heap.size 5 i0 (.int .u8 0) 1 Try.underlying32 hi hz0 hz1 hz2 rfl v2 _ rfl HO2.out w.heap.size (.slice a3 len3 cap3) (By.u8s l) rfl HS2.out (HUS.out l) c2 c3 hsz2 ?_); intro v3 w3 hown3 hg3)
      have HB3 := Lib.hid (HB2.out.grown hg3 (by omega) (fun q hq => by have := (HO2.out.lt q hq).1; omega))
      have hsl3 := Mem.SlV.of_own hown3
      rw [← By.u8s_append, show By.be x 6 ++ By.textB a2 ++ l = By.whole x 6 a2 l from by rw [By.textB_short a2 hs255]; rfl] at hsl3
      have HN := Lib.hid (By.new_any v3 (By.whole x 6 a2 l) w3 _ hsl3 (by rw [By.whole_length]; omega))
      clear hown3 hg3 hsl3 c2 c3 HS2 HO2 HB2 hsz2
      refine HN.out.mono ?_
      rintro e u4 ⟨g, A, c, rfl, hg, hr4, hb4⟩
      have hg0 : w.heap.size ≤ g := Nat.le_trans HB3.out.size hg
      have HB4 := Lib.hid (HB3.out.trans (hb4.mono HB3.out.size))
      have hg4 := hr4.blk.lt
      have HG := By.signed_any u4 g A c _ 0 true hr4 6
      unfold By.Read at HG
      rw [show By.readV true (By.whole x 6 a2 l) 0 true 6 = x from HW.out.1, show By.readP (By.whole x 6 a2 l) 0 true 6 = 6 from HW.out.2.1, show By.fitsB (By.whole x 6 a2 l) 0 true 6 = true from HW.out.2.2] at HG
      have HG2 := Lib.hid HG
      clear HG hr4 hb4 hg HN HB3
      go_wp2_with fail
      refine HG2.out.mono ?_
      rintro e u5 ⟨rfl, hr5, ho5⟩
      have HB5 := Lib.hid (Mem.below_of_only HB4.out ho5 (by omega) hg0)
      have HTX := By.text_read u5 g A c _ 6 true hr5 255
      have hg5 := hr5.blk.lt
      unfold By.ReadT at HTX
      rw [HT.out.1, HT.out.2.1, HT.out.2.2, By.same_text] at HTX
      have HTX2 := Lib.hid HTX
      clear HTX hr5 ho5 HB4 HG2
      go_wp2_with fail
      refine HTX2.out.mono ?_
      rintro e u6 ⟨rfl, hr6, ho6⟩
      have HB6 := Lib.hid (Mem.below_of_only HB5.out ho6 (by omega) hg0)
      have HR6 := Lib.hid hr6
      have HLE := Lib.hid (show ((By.whole x 6 a2 l).length : Int) - (6 + (1 + a2.size) : Nat) = len3 by rw [HLN.out, ← HLL.out]; omega)
      clear hr6 ho6 HB5 HTX2
      go_wp2_with fail
      refine (By.left_any u6 g A c _ _ true HR6.out).mono ?_
      rintro e u7 ⟨rfl, q7, rfl⟩
      rw [HLE.out]
      have HR7 := Lib.hid (HR6.out.drewN q7)
      go_wp2_with fail
      refine (By.bad_any _ g A c _ _ true HR7.out).mono ?_
      rintro e u8 ⟨rfl, rfl⟩
      go_wp2_with fail
      refine (By.known_any _).mono ?_
      rintro e u9 ⟨rfl, hb9⟩
      go_wp2_with fail
      go_ret
      exact ⟨rfl, (Mem.below_drewN HB6.out q7).trans (hb9.mono (by have := HB6.out.size; simpa using this))⟩
    · have hf := By.room6 a0
      go_enter Try.func9, Try.ntmps9
      go_wp2_with fail
      generalize wrap64 (a0 * 256) / 256 = x at hf ⊢
      have HF := Lib.hid hf
      clear hf
      have HW := Lib.hid (By.whole_num x 6 a2 l (by omega) HF.out.1 HF.out.2)
      have HT := Lib.hid (By.whole_text x 7 a2 l hs255)
      have HLN := Lib.hid (By.whole_length x 7 a2 l)
      have hp := By.put_any (.slice none 0 0) [] x 7 w .nil (by simp) (by simp)
      rw [List.nil_append, show By.putB x 7 = By.be x 7 from By.putB_lit x 6 (by omega)] at hp
      have HP := Lib.hid hp
      clear hp
      refine HP.out.mono ?_
      rintro e u1 ⟨v1, rfl, hown1, hb1⟩
      have HX := Lib.hid (By.text_any v1 (By.u8s (By.be x 7)) a2 u1 (Mem.SlV.of_own hown1) (HUS.out _) (by rw [By.u8s_length, By.be_length]; omega) HSZ.out)
      have HB1 := Lib.hid hb1
      clear hown1 hb1 HP
      go_wp2_with fail
      refine HX.out.mono ?_
      rintro e u2 ⟨v2, rfl, hown2, hb2⟩
      rw [← By.u8s_append] at hown2
      have HO2 := Lib.hid hown2
      have HB2 := Lib.hid (HB1.out.trans (hb2.mono HB1.out.size))
      have hsz1 := HB1.out.size
      have hsz2 := hb2.size
      have c2 : (By.u8s (By.be x 7 ++ By.textB a2)).length + (By.u8s l).length ≤ maxLen := by
        have := By.textB_length a2
        rw [By.u8s_length, By.u8s_length, List.length_append, By.be_length]; unfold maxLen; omega
      have c3 : ((By.u8s (By.be x 7 ++ By.textB a2)).length + (By.u8s l).length) * 1 ≤ 140737488355328 := by
        have := By.textB_length a2
        rw [By.u8s_length, By.u8s_length, List.length_append, By.be_length]; omega
      have HS2 := Lib.hid (HSL.out.below HB2.out)
      clear hown2 hb2 HX HB1
      go_wp2_with (at_builtin; go_must (refine Mem.wpList_append_slv _ rfl (.tmp 43) (.tmp 44) _ rfl u1.heap.size 5 i0 (.int .u8 0) 1 Try.underlying32 hi hz0 hz1 hz2 rfl v2 _ rfl HO2.out w.heap.size (.slice a3 len3 cap3) (By.u8s l) rfl HS2.out (HUS.out l) c2 c3 hsz2 ?_); intro v3 w3 hown3 hg3)
      have HB3 := Lib.hid (HB2.out.grown hg3 (by omega) (fun q hq => by have := (HO2.out.lt q hq).1; omega))
      have hsl3 := Mem.SlV.of_own hown3
      rw [← By.u8s_append, show By.be x 7 ++ By.textB a2 ++ l = By.whole x 7 a2 l from by rw [By.textB_short a2 hs255]; rfl] at hsl3
      have HN := Lib.hid (By.new_any v3 (By.whole x 7 a2 l) w3 _ hsl3 (by rw [By.whole_length]; omega))
      clear hown3 hg3 hsl3 c2 c3 HS2 HO2 HB2 hsz2
      refine HN.out.mono ?_
      rintro e u4 ⟨g, A, c, rfl, hg, hr4, hb4⟩
      have hg0 : w.heap.size ≤ g := Nat.le_trans HB3.out.size hg
      have HB4 := Lib.hid (HB3.out.trans (hb4.mono HB3.out.size))
      have hg4 := hr4.blk.lt
      have HG := By.signed_any u4 g A c _ 0 true hr4 7
      unfold By.Read at HG
      rw [show By.readV true (By.whole x 7 a2 l) 0 true 7 = x from HW.out.1, show By.readP (By.whole x 7 a2 l) 0 true 7 = 7 from HW.out.2.1, show By.fitsB (By.whole x 7 a2 l) 0 true 7 = true from HW.out.2.2] at HG
      have HG2 := Lib.hid HG
      clear HG hr4 hb4 hg HN HB3
      go_wp2_with fail
      refine HG2.out.mono ?_
      rintro e u5 ⟨rfl, hr5, ho5⟩
      have HB5 := Lib.hid (Mem.below_of_only HB4.out ho5 (by omega) hg0)
      have HTX := By.text_read u5 g A c _ 7 true hr5 255
      have hg5 := hr5.blk.lt
      unfold By.ReadT at HTX
      rw [HT.out.1, HT.out.2.1, HT.out.2.2, By.same_text] at HTX
      have HTX2 := Lib.hid HTX
      clear HTX hr5 ho5 HB4 HG2
      go_wp2_with fail
      refine HTX2.out.mono ?_
      rintro e u6 ⟨rfl, hr6, ho6⟩
      have HB6 := Lib.hid (Mem.below_of_only HB5.out ho6 (by omega) hg0)
      have HR6 := Lib.hid hr6
      have HLE := Lib.hid (show ((By.whole x 7 a2 l).length : Int) - (7 + (1 + a2.size) : Nat) = len3 by rw [HLN.out, ← HLL.out]; omega)
      clear hr6 ho6 HB5 HTX2
      go_wp2_with fail
      refine (By.left_any u6 g A c _ _ true HR6.out).mono ?_
      rintro e u7 ⟨rfl, q7, rfl⟩
      rw [HLE.out]
      have HR7 := Lib.hid (HR6.out.drewN q7)
      go_wp2_with fail
      refine (By.bad_any _ g A c _ _ true HR7.out).mono ?_
      rintro e u8 ⟨rfl, rfl⟩
      go_wp2_with fail
      refine (By.known_any _).mono ?_
      rintro e u9 ⟨rfl, hb9⟩
      go_wp2_with fail
      go_ret
      exact ⟨rfl, (Mem.below_drewN HB6.out q7).trans (hb9.mono (by have := HB6.out.size; simpa using this))⟩
    · have hf := By.room7 a0
      go_enter Try.func9, Try.ntmps9
      go_wp2_with fail
      generalize wrap64 a0 = x at hf ⊢
      have HF := Lib.hid hf
      clear hf
      have HW := Lib.hid (By.whole_num x 7 a2 l (by omega) HF.out.1 HF.out.2)
      have HT := Lib.hid (By.whole_text x 8 a2 l hs255)
      have HLN := Lib.hid (By.whole_length x 8 a2 l)
      have hp := By.put_any (.slice none 0 0) [] x 8 w .nil (by simp) (by simp)
      rw [List.nil_append, show By.putB x 8 = By.be x 8 from By.putB_lit x 7 (by omega)] at hp
      have HP := Lib.hid hp
      clear hp
      refine HP.out.mono ?_
      rintro e u1 ⟨v1, rfl, hown1, hb1⟩
      have HX := Lib.hid (By.text_any v1 (By.u8s (By.be x 8)) a2 u1 (Mem.SlV.of_own hown1) (HUS.out _) (by rw [By.u8s_length, By.be_length]; omega) HSZ.out)
      have HB1 := Lib.hid hb1
      clear hown1 hb1 HP
      go_wp2_with fail
      refine HX.out.mono ?_
      rintro e u2 ⟨v2, rfl, hown2, hb2⟩
      rw [← By.u8s_append] at hown2
      have HO2 := Lib.hid hown2
      have HB2 := Lib.hid (HB1.out.trans (hb2.mono HB1.out.size))
      have hsz1 := HB1.out.size
      have hsz2 := hb2.size
      have c2 : (By.u8s (By.be x 8 ++ By.textB a2)).length + (By.u8s l).length ≤ maxLen := by
        have := By.textB_length a2
        rw [By.u8s_length, By.u8s_length, List.length_append, By.be_length]; unfold maxLen; omega
      have c3 : ((By.u8s (By.be x 8 ++ By.textB a2)).length + (By.u8s l).length) * 1 ≤ 140737488355328 := by
        have := By.textB_length a2
        rw [By.u8s_length, By.u8s_length, List.length_append, By.be_length]; omega
      have HS2 := Lib.hid (HSL.out.below HB2.out)
      clear hown2 hb2 HX HB1
      go_wp2_with (at_builtin; go_must (refine Mem.wpList_append_slv _ rfl (.tmp 43) (.tmp 44) _ rfl u1.heap.size 5 i0 (.int .u8 0) 1 Try.underlying32 hi hz0 hz1 hz2 rfl v2 _ rfl HO2.out w.heap.size (.slice a3 len3 cap3) (By.u8s l) rfl HS2.out (HUS.out l) c2 c3 hsz2 ?_); intro v3 w3 hown3 hg3)
      have HB3 := Lib.hid (HB2.out.grown hg3 (by omega) (fun q hq => by have := (HO2.out.lt q hq).1; omega))
      have hsl3 := Mem.SlV.of_own hown3
      rw [← By.u8s_append, show By.be x 8 ++ By.textB a2 ++ l = By.whole x 8 a2 l from by rw [By.textB_short a2 hs255]; rfl] at hsl3
      have HN := Lib.hid (By.new_any v3 (By.whole x 8 a2 l) w3 _ hsl3 (by rw [By.whole_length]; omega))
      clear hown3 hg3 hsl3 c2 c3 HS2 HO2 HB2 hsz2
      refine HN.out.mono ?_
      rintro e u4 ⟨g, A, c, rfl, hg, hr4, hb4⟩
      have hg0 : w.heap.size ≤ g := Nat.le_trans HB3.out.size hg
      have HB4 := Lib.hid (HB3.out.trans (hb4.mono HB3.out.size))
      have hg4 := hr4.blk.lt
      have HG := By.signed_any u4 g A c _ 0 true hr4 8
      unfold By.Read at HG
      rw [show By.readV true (By.whole x 8 a2 l) 0 true 8 = x from HW.out.1, show By.readP (By.whole x 8 a2 l) 0 true 8 = 8 from HW.out.2.1, show By.fitsB (By.whole x 8 a2 l) 0 true 8 = true from HW.out.2.2] at HG
      have HG2 := Lib.hid HG
      clear HG hr4 hb4 hg HN HB3
      go_wp2_with fail
      refine HG2.out.mono ?_
      rintro e u5 ⟨rfl, hr5, ho5⟩
      have HB5 := Lib.hid (Mem.below_of_only HB4.out ho5 (by omega) hg0)
      have HTX := By.text_read u5 g A c _ 8 true hr5 255
      have hg5 := hr5.blk.lt
      unfold By.ReadT at HTX
      rw [HT.out.1, HT.out.2.1, HT.out.2.2, By.same_text] at HTX
      have HTX2 := Lib.hid HTX
      clear HTX hr5 ho5 HB4 HG2
      go_wp2_with fail
      refine HTX2.out.mono ?_
      rintro e u6 ⟨rfl, hr6, ho6⟩
      have HB6 := Lib.hid (Mem.below_of_only HB5.out ho6 (by omega) hg0)
      have HR6 := Lib.hid hr6
      have HLE := Lib.hid (show ((By.whole x 8 a2 l).length : Int) - (8 + (1 + a2.size) : Nat) = len3 by rw [HLN.out, ← HLL.out]; omega)
      clear hr6 ho6 HB5 HTX2
      go_wp2_with fail
      refine (By.left_any u6 g A c _ _ true HR6.out).mono ?_
      rintro e u7 ⟨rfl, q7, rfl⟩
      rw [HLE.out]
      have HR7 := Lib.hid (HR6.out.drewN q7)
      go_wp2_with fail
      refine (By.bad_any _ g A c _ _ true HR7.out).mono ?_
      rintro e u8 ⟨rfl, rfl⟩
      go_wp2_with fail
      refine (By.known_any _).mono ?_
      rintro e u9 ⟨rfl, hb9⟩
      go_wp2_with fail
      go_ret
      exact ⟨rfl, (Mem.below_drewN HB6.out q7).trans (hb9.mono (by have := HB6.out.size; simpa using this))⟩

/-! ### THE ROW's STEP: WRITTEN OUT: LEAVE IT -/
set_option maxRecDepth 100000 in
theorem lifted (os : Os) (started : os.Started) (H : Type) (enc : TypeId × Value → H) :
    ReturnsInHanded {} Try.checked os 9 .any (Rows.octetBackSpec.pre6 enc Try.prog Try.f9 Rows.octetBackRow.domain false) (Rows.octetBackSpec.post enc Try.prog Try.f9 false true false false) := by
  refine returnsInHanded_of_change (C := Try.checked) own started (by kernel_rfl) Try.func9
    (ChangeSpec.witness6 (enc := enc) (C := Try.checked) false ⟨#[], #[.int .i64 0, .int .i64 0, .string ByteArray.empty, .slice none 0 0], []⟩ 8 (by kernel_rfl) (by kernel_rfl) (by kernel_rfl) (by kernel_rfl)) ?_
  intro W base args ds gs before hval0 hW hcnd _
  have hval : ∀ (j : Nat) t v, Try.f9.params[j]? = some t → args[j]? = some v → Value.okWide Try.prog W .any base t v := hval0
  have hW' := hW
  obtain ⟨p, q, hA0, hV, rfl, hfz, hnd⟩ := hW
  have hA : DataW.TrodAll enc Try.prog W 0 (fun _ => true) true Try.f9.params.toList args.toList ds p := hA0
  rw [Try.params9] at hA hval
  obtain ⟨v0, vs0, d0, ds0, p0, q0, hargs, rfl, rfl, h0, r0⟩ := trodAll_cons hA
  obtain ⟨v1, vs1, d1, ds1, p1, q1, rfl, rfl, rfl, h1, r1⟩ := trodAll_cons r0
  obtain ⟨v2, vs2, d2, ds2, p2, q2, rfl, rfl, rfl, h2, r2⟩ := trodAll_cons r1
  obtain ⟨v3, vs3, d3, ds3, p3, q3, rfl, rfl, rfl, h3, r3⟩ := trodAll_cons r2
  obtain ⟨rfl, rfl, rfl⟩ := trodAll_nil r3
  obtain rfl : args = #[v0, v1, v2, v3] := by cases args; simp_all
  obtain ⟨rfl, rfl⟩ := trodVars_none hV
  obtain ⟨a0, rfl, rfl, rfl, w0⟩ := open_int Try.underlying2 (hval 0 2 v0 rfl rfl) h0
  obtain ⟨a1, rfl, rfl, rfl, w1⟩ := open_int Try.underlying3 (hval 1 3 v1 rfl rfl) h1
  obtain ⟨a2, rfl, rfl, rfl, w2⟩ := open_string Try.underlying9 (hval 2 9 v2 rfl rfl) h2
  obtain ⟨a3, len3, cap3, rfl⟩ := okWide_slice Try.underlying32 (hval 3 32 v3 rfl rfl)
  have k3 := h3
  have lt3 : ∀ x ∈ p3, x.block < W.heap.size := by obtain ⟨m, hm⟩ := k3; exact DataW.trod_lt m _ _ _ hm
  obtain ⟨z3, w3⟩ : ∃ zs, IsRow .u8 W a3 len3 cap3 zs := by
    obtain ⟨fuel, hf⟩ := h3
    rcases open_ints Try.underlying32 Try.underlying5 (by kernel_rfl) hf with ⟨hcs, _⟩ | ⟨x, l, c, zs, hcs, _, hl, hm, hz, _, hcell, hwz⟩
    · simp [Value.cells] at hcs
      obtain ⟨rfl, rfl, rfl⟩ := hcs
      exact ⟨[], .inl ⟨rfl, rfl, rfl, rfl⟩⟩
    · simp [Value.cells] at hcs
      obtain ⟨rfl, rfl, rfl⟩ := hcs
      exact ⟨zs, .inr ⟨_, rfl, hl, hm, by simpa using hz, hcell, hwz⟩⟩
  clear hA0 hval0
  refine (walk a0 a1 a2 a3 len3 cap3 z3 W w0 w1 w2 w3).mono fun e W' ⟨he, bel⟩ => ?_
  subst he
  exact ⟨_, rfl, _, _, _, [], _, [], hW', trodAll_mk1 (shut_bool Try.underlying4 _), (trodAll_cons_mk (shut_int Try.underlying2 w0) (trodAll_cons_mk (shut_int Try.underlying3 w1) (trodAll_cons_mk (shut_string Try.underlying9 w2) (trodAll_cons_mk (Below.trod laidOut (by kernel_rfl) (of_decide_eq_true (by kernel_rfl)) k3 bel lt3) trodAll_mk0)))), rfl, bel.frame _, fun h => by cases h⟩

theorem over : Rows.octetBackRow.holds Try.pinned (OpenSpec.ofChange Rows.octetBackSpec) :=
  OpenClaim.holds_of_wide 9 Try.f9 rfl rfl rfl rfl rfl rfl rfl ⟨rfl, rfl, rfl, rfl, rfl⟩ rfl rfl rfl rfl rfl (by kernel_rfl) Try.func9 (by kernel_rfl)
    (of_decide_eq_true (by kernel_rfl)) (by unfold Func.isWrapper; first | (rw [if_pos (by decide +kernel)]; kernel_rfl) | (rw [if_neg (by decide +kernel)]; exact ⟨rfl, rfl⟩))
    (fun os started H enc _ => lifted os started H enc)

/-- ████ THE STATEMENT ████ -/
theorem proved : Rows.OctetBackSaid := over
#print axioms proved
end Go.Proofs.Ytngjflcnfjbooaa.octetBack
