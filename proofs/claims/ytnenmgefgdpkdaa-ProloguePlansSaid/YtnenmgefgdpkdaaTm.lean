/-
  WALK of layer 28's law: known.
-/
import Derived.Test.YtnenmgefgdpkdaaTi
import Derived.Test.YtnenmgefgdpkdaaTl
namespace Go.Proofs.Ytnenmgefgdpkdaa.Bo
open Go.RowKit Go.Maps
open Mem Rf
set_option linter.unusedSimpArgs false
set_option linter.unusedVariables false

theorem bl_lit {W : World} {b : Nat} {l : List Bool} {cs : Array Value} (h : Blk W b 4 cs) (hc : cs = (l.flatMap encB).toArray) (hl : l.length ≤ maxLen) : BL W (some ⟨b, 0, none⟩) l.length l.length l := wd_blk h encB_len hc hl
theorem il_lit {W : World} {b : Nat} {l : List Int} {cs : Array Value} (h : Blk W b 3 cs) (hc : cs = (l.flatMap encI).toArray) (hl : l.length ≤ maxLen) : IL W (some ⟨b, 0, none⟩) l.length l.length l := wd_blk h encI_len hc hl
theorem blk2 {W : World} {t u : TypeId} {a c : Array Value} : Blk ((W.alloc (.cells a t)).alloc (.cells c u)) W.heap.size t a ∧ Blk ((W.alloc (.cells a t)).alloc (.cells c u)) (W.heap.size + 1) u c := by
  refine ⟨(Blk.new _ _ _).alloc _, ?_⟩
  have := Blk.new (W.alloc (.cells a t)) u c
  rwa [World.size_alloc] at this
theorem two_full (N : Nat) : (List.range 4).map (ckFull (twoP N)) = [3, 0, 3, 3] := by kernel_rfl
theorem two_lean (N : Nat) : (List.range 4).map (ckLean (twoP N) [true]) = [0, 2, 3, 1] := by kernel_rfl
theorem two_all : (List.range 4).map kpAll = [true, true, true, true] := by kernel_rfl
theorem two_kept : (List.range 4).map (kpOf [true, false, true]) = [true, false, true, false] := by kernel_rfl
theorem size_full (N : Nat) (A B : Option Addr) (c d : Nat) : sizeV (twoP N) ⟨A, 4, c, [true, true, true, true], B, 4, d, [3, 0, 3, 3]⟩ 0 = 6 := by kernel_rfl
theorem size_lean (N : Nat) (A B : Option Addr) (c d : Nat) : sizeV (twoP N) ⟨A, 4, c, [true, false, true, false], B, 4, d, [0, 2, 3, 1]⟩ 1 = 0 := by kernel_rfl
theorem pass_one : passV 1 5 5 99 = true := by decide +kernel
theorem pass_two : passV 2 5 5 9 = false := by decide +kernel
theorem least_nine : leastV 9 = 2 := by decide +kernel
theorem cost_three : costV 3 = 3 := by decide +kernel
theorem two_kinds (N a : Nat) (h : a < 4) : (gfAt (twoP N).fs a).F.kinds.2.1 ≤ 1000 ∧ (gfAt (twoP N).fs a).F.code.2.1 ≤ 1000 := by
  have : a = 0 ∨ a = 1 ∨ a = 2 ∨ a = 3 := by omega
  rcases this with rfl | rfl | rfl | rfl <;> (unfold twoP gfAt; simp)
/-- A plan's lists, of four functions. -/
theorem plA_four {w w' : World} {f : Nat → Bool} {g : Nat → Int} {e : Ending} {ks : List Bool} {cs : List Int} (h : plA w 4 f g e w') (hk : (List.range 4).map f = ks) (hc : (List.range 4).map g = cs) (hk4 : ks.length = 4) (hc4 : cs.length = 4) :
    ∃ A c B d, e = .returned (.agg #[.slice A 4 c, .slice B 4 d]) ∧ PnR w' ⟨A, 4, c, ks, B, 4, d, cs⟩ ∧ Below w.heap.size w w' := by
  obtain ⟨⟨A, n, c, l, B, m, d, k⟩, e1, e2, e3, e4, e5⟩ := h
  dsimp only at e3 e4
  subst e3 e4
  subst hk hc
  have h1 := e2.k.1
  have h2 := e2.c.1
  dsimp only at h1 h2
  rw [hk4] at h1
  rw [hc4] at h2
  subst h1 h2
  exact ⟨A, c, B, d, e1, e2, e5⟩

set_option maxRecDepth 100000 in
set_option maxHeartbeats 8000000 in
theorem known28_any (w : World) : Calls Try.prog 12 #[] w fun e w' => e = .returned (.bool true) ∧ Below w.heap.size w w' := by
  have HTWO := Lib.hid (two25_any w)
  obtain ⟨N, hN⟩ : ∃ N, w.heap.size = N := ⟨_, rfl⟩
  have HN := Lib.hid hN
  rw [hN] at HTWO ⊢
  clear hN
  have HV := Lib.hid (show pgV (twoP N) = .agg #[.slice (some ⟨N + 16, 0, none⟩) 4 4, .slice none 0 0, .int .i64 0] from rfl)
  have HFU := Lib.hid (fun W (h : PgR W (twoP N)) => full_any W (twoP N) h.fr (by unfold twoP; simp))
  have HLN := Lib.hid (fun W (h : PgR W (twoP N)) A B n m c d xl yl hx hy => lean_any W (twoP N) h.fr (by unfold twoP; simp) (fun a ha => (two_kinds N a ha).1) A B n c m d xl yl hx hy)
  have HSZ := Lib.hid (fun W (h : PgR W (twoP N)) p hp i => size_any W (twoP N) h.fr (by unfold twoP; simp) (fun a ha => (two_kinds N a ha).2) p hp i)
  rw [HV.out] at HTWO HFU HLN HSZ
  have HTF := Lib.hid (two_full N)
  have HTL := Lib.hid (two_lean N)
  have HSF := Lib.hid (size_full N)
  have HSL := Lib.hid (size_lean N)
  have H4 := Lib.hid (show (twoP N).fn = 4 from rfl)
  rw [H4.out] at HFU HLN
  obtain ⟨P, hP⟩ : ∃ P, twoP N = P := ⟨_, rfl⟩
  rw [hP] at HTWO HFU HLN HSZ HTF HTL HSF HSL
  clear hP HV H4
  obtain ⟨ckF, hckF⟩ : ∃ x, ckFull P = x := ⟨_, rfl⟩
  obtain ⟨ckL, hckL⟩ : ∃ x, ckLean P = x := ⟨_, rfl⟩
  rw [hckF] at HFU HTF
  rw [hckL] at HLN HTL
  clear hckF hckL
  go_enter Try.func12, Try.ntmps12
  go_wp2_with (go_at_call 24; refine HTWO.out.mono ?_; rintro e w1 ⟨rfl, hr1, hb1⟩; have HR1 := Lib.hid hr1; have HB1 := Lib.hid hb1; clear hr1 hb1; have HW1 := Lib.hid (alloc_ w1 (.cells #[.slice (some ⟨N + 16, 0, none⟩) 4 4, .slice none 0 0, .int .i64 0] 34)); have HP1 := Lib.hid (Blk.new w1 34 #[.slice (some ⟨N + 16, 0, none⟩) 4 4, .slice none 0 0, .int .i64 0]); obtain ⟨W1, hW1⟩ : ∃ x, w1.alloc (.cells #[.slice (some ⟨N + 16, 0, none⟩) 4 4, .slice none 0 0, .int .i64 0] 34) = x := ⟨_, rfl⟩; rw [hW1] at HW1 HP1; have HWW := Lib.hid hW1; clear hW1; go_wp2_with (go_at_call 17; rw [HWW.out]; refine (HFU.out W1 (HR1.out.on HW1.out)).mono ?_; intro e w2 hpl; obtain ⟨A, c, B, d, rfl, hr2, hb2⟩ := plA_four hpl two_all HTF.out rfl rfl; have HR2 := Lib.hid hr2; have HB2 := Lib.hid hb2; clear hpl hr2 hb2; obtain ⟨W2, hW2⟩ : ∃ x, w2.alloc (.cells #[.slice A 4 c, .slice B 4 d] 29) = x := ⟨_, rfl⟩; have HW2 := Lib.hid (show Below w2.heap.size w2 W2 from by rw [← hW2]; exact alloc_ _ _); have HP2 := Lib.hid (show Blk W2 w2.heap.size 29 #[.slice A 4 c, .slice B 4 d] from by rw [← hW2]; exact Blk.new _ _ _); have HPP := Lib.hid (HP1.out.below (to_ HB2.out HW2.out) HP1.out.lt); have p0 : W2.cell? ⟨w1.heap.size, 0, none⟩ = some (.slice (some ⟨N + 16, 0, none⟩) 4 4) := HPP.out.cell 0; have p1 : W2.cell? ⟨w1.heap.size, 1, none⟩ = some (.slice none 0 0) := HPP.out.cell 1; have p2 : W2.cell? ⟨w1.heap.size, 2, none⟩ = some (.int .i64 0) := HPP.out.cell 2; have HE2 := Lib.hid (to_ HW1.out (to_ HB2.out HW2.out)); obtain ⟨W3, hW3⟩ : ∃ x, (W2.alloc (.cells #[.bool true, .bool false, .bool true] 4)).alloc (.cells #[.bool true] 4) = x := ⟨_, rfl⟩; have HW3 := Lib.hid (show Below W2.heap.size W2 W3 from by rw [← hW3]; exact to_ (alloc_ _ _) (alloc_ _ _)); have HL3 := Lib.hid (show Blk W3 W2.heap.size 4 #[.bool true, .bool false, .bool true] ∧ Blk W3 (W2.heap.size + 1) 4 #[.bool true] from by rw [← hW3]; exact blk2); go_wp2_with (go_at_call 19; refine (HLN.out W3 (HR1.out.on (to_ HE2.out HW3.out)) _ _ 3 1 3 1 [true, false, true] [true] (bl_lit HL3.out.1 rfl (by unfold maxLen; simp)) (bl_lit HL3.out.2 rfl (by unfold maxLen; simp))).mono ?_; intro e w3 hpl; obtain ⟨A2, c2, B2, d2, rfl, hr3, hb3⟩ := plA_four hpl two_kept HTL.out rfl rfl; have HR3 := Lib.hid hr3; have HB3 := Lib.hid hb3; clear hpl hr3 hb3 p0 p1 p2 hW2 hW3; obtain ⟨W4, hW4⟩ : ∃ x, w3.alloc (.cells #[.slice A2 4 c2, .slice B2 4 d2] 29) = x := ⟨_, rfl⟩; have HW4 := Lib.hid (show Below w3.heap.size w3 W4 from by rw [← hW4]; exact alloc_ _ _); have HE3 := Lib.hid (to_ HW3.out (to_ HB3.out HW4.out)); have HP3 := Lib.hid (show Blk W4 w3.heap.size 29 #[.slice A2 4 c2, .slice B2 4 d2] from by rw [← hW4]; exact Blk.new _ _ _); have HX := Lib.hid (show ∀ W, Below W4.heap.size W4 W → (W.cell? ⟨w1.heap.size, 0, none⟩ = some (.slice (some ⟨N + 16, 0, none⟩) 4 4) ∧ W.cell? ⟨w1.heap.size, 1, none⟩ = some (.slice none 0 0) ∧ W.cell? ⟨w1.heap.size, 2, none⟩ = some (.int .i64 0)) ∧ (W.cell? ⟨w2.heap.size, 0, none⟩ = some (.slice A 4 c) ∧ W.cell? ⟨w2.heap.size, 1, none⟩ = some (.slice B 4 d)) ∧ W.cell? ⟨w3.heap.size, 0, none⟩ = some (.slice A2 4 c2) ∧ W.cell? ⟨w3.heap.size, 1, none⟩ = some (.slice B2 4 d2) from fun W hb => by have k1 := HPP.out.below (to_ HE3.out hb) HPP.out.lt; have k2 := HP2.out.below (to_ HE3.out hb) HP2.out.lt; have k3 := HP3.out.below hb HP3.out.lt; exact ⟨⟨k1.cell 0, k1.cell 1, k1.cell 2⟩, ⟨k2.cell 0, k2.cell 1⟩, k3.cell 0, k3.cell 1⟩); have HRP := Lib.hid (fun W (hb : Below W4.heap.size W4 W) => HR1.out.on (to_ HE2.out (to_ HE3.out hb))); have HRF := Lib.hid (fun W (hb : Below W4.heap.size W4 W) => HR2.out.on (to_ HW2.out (to_ HE3.out hb))); have HRL := Lib.hid (fun W (hb : Below W4.heap.size W4 W) => HR3.out.on (to_ HW4.out hb)); have HBW := Lib.hid (show Below w.heap.size w W4 from to_ (by rw [HN.out]; exact HB1.out) (to_ HE2.out HE3.out)); obtain ⟨⟨p0, p1, p2⟩, ⟨f0, f1⟩, l0, l1⟩ := HX.out W4 (Below.refl _ _); obtain ⟨W5, hW5⟩ : ∃ x, (W4.alloc (.cells #[.bool true, .bool true, .bool true, .bool true] 4)).alloc (.cells #[.int .i64 3, .int .i64 0, .int .i64 3, .int .i64 3] 3) = x := ⟨_, rfl⟩; have HW5 := Lib.hid (show Below W4.heap.size W4 W5 from by rw [← hW5]; exact to_ (alloc_ _ _) (alloc_ _ _)); have HL5 := Lib.hid (show Blk W5 W4.heap.size 4 #[.bool true, .bool true, .bool true, .bool true] ∧ Blk W5 (W4.heap.size + 1) 3 #[.int .i64 3, .int .i64 0, .int .i64 3, .int .i64 3] from by rw [← hW5]; exact blk2); go_wp2_with (go_at_call 6; refine (least_any 9 _).mono ?_; rintro e w9 ⟨rfl, hw9⟩; rw [hw9, least_nine]; clear hw9; go_wp2_with (go_at_call 8; refine (cost_any 3 _).mono ?_; rintro e w9 ⟨rfl, hw9⟩; rw [hw9, cost_three]; clear hw9; go_wp2_with (go_at_call 10; refine (pass_any 1 5 5 99 _).mono ?_; rintro e w9 ⟨rfl, hw9⟩; rw [hw9, pass_one]; clear hw9; go_wp2_with (go_at_call 10; refine (pass_any 2 5 5 9 _).mono ?_; rintro e w9 ⟨rfl, hw9⟩; rw [hw9, pass_two]; clear hw9; go_wp2_with (go_at_call 16; refine (same28_any _ ⟨A, 4, c, [true, true, true, true], B, 4, d, [3, 0, 3, 3]⟩ ⟨_, 4, 4, [true, true, true, true], _, 4, 4, [3, 0, 3, 3]⟩ (HRF.out _ HW5.out) ⟨bl_lit HL5.out.1 rfl (by unfold maxLen; simp), il_lit HL5.out.2 rfl (by unfold maxLen; simp)⟩ rfl rfl (by simp) (by simp)).mono ?_; rintro e w6 ⟨rfl, hb6⟩; have HB6 := Lib.hid (to_ HW5.out hb6); clear hb6 hW5 p0 p1 p2 f0 f1 l0 l1; obtain ⟨⟨p0, p1, p2⟩, ⟨f0, f1⟩, l0, l1⟩ := HX.out w6 HB6.out; obtain ⟨W7, hW7⟩ : ∃ x, (w6.alloc (.cells #[.bool true, .bool false, .bool true, .bool false] 4)).alloc (.cells #[.int .i64 0, .int .i64 2, .int .i64 3, .int .i64 1] 3) = x := ⟨_, rfl⟩; have HW7 := Lib.hid (show Below w6.heap.size w6 W7 from by rw [← hW7]; exact to_ (alloc_ _ _) (alloc_ _ _)); have HL7 := Lib.hid (show Blk W7 w6.heap.size 4 #[.bool true, .bool false, .bool true, .bool false] ∧ Blk W7 (w6.heap.size + 1) 3 #[.int .i64 0, .int .i64 2, .int .i64 3, .int .i64 1] from by rw [← hW7]; exact blk2); go_wp2_with (go_at_call 16; refine (same28_any _ ⟨A2, 4, c2, [true, false, true, false], B2, 4, d2, [0, 2, 3, 1]⟩ ⟨_, 4, 4, [true, false, true, false], _, 4, 4, [0, 2, 3, 1]⟩ (HRL.out _ (to_ HB6.out HW7.out)) ⟨bl_lit HL7.out.1 rfl (by unfold maxLen; simp), il_lit HL7.out.2 rfl (by unfold maxLen; simp)⟩ rfl rfl (by simp) (by simp)).mono ?_; rintro e w8 ⟨rfl, hb8⟩; have HB8 := Lib.hid (to_ HB6.out (to_ HW7.out hb8)); clear hb8 hW7 p0 p1 p2 f0 f1 l0 l1; obtain ⟨⟨p0, p1, p2⟩, ⟨f0, f1⟩, l0, l1⟩ := HX.out w8 HB8.out; go_wp2_with (go_at_call 21; refine (HSZ.out _ (HRP.out _ HB8.out) ⟨A, 4, c, [true, true, true, true], B, 4, d, [3, 0, 3, 3]⟩ (HRF.out _ HB8.out) 0).mono ?_; rintro e w9 ⟨rfl, hb9⟩; rw [HSF.out]; have HB9 := Lib.hid (to_ HB8.out hb9); clear hb9 p0 p1 p2 f0 f1 l0 l1; obtain ⟨⟨p0, p1, p2⟩, ⟨f0, f1⟩, l0, l1⟩ := HX.out w9 HB9.out; go_wp2_with (go_at_call 21; refine (HSZ.out _ (HRP.out _ HB9.out) ⟨A2, 4, c2, [true, false, true, false], B2, 4, d2, [0, 2, 3, 1]⟩ (HRL.out _ HB9.out) 1).mono ?_; rintro e wE ⟨rfl, hbE⟩; rw [HSL.out]; have HBE := Lib.hid (to_ HB9.out hbE); clear hbE)))))))))))
  go_ret
  exact ⟨rfl, by rw [← HN.out]; exact to_ HBW.out HBE.out⟩
end Go.Proofs.Ytnenmgefgdpkdaa.Bo
