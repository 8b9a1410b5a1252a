/-
  WALK of layer 8: take: eight bytes of a reader as an instruction.
-/
import Derived.Test.YtbknmapkdjmcjaaGreatDoorIc
import Derived.Test.YtbknmapkdjmcjaaGreatDoorRm
namespace Go.Proofs.YtbknmapkdjmcjaaGreatDoor.By
open Go.ChangeShapes Go.WideShapes Go.ChangeAt Go.RowKit
open Mem

theorem Rdr.only {w w' : World} {g G : Nat} {A : Option Addr} {c : Nat} {l : List UInt8} {p : Nat} {good : Bool} (h : Rdr w g A c l p good) (hg : w.grownBy w' (some G)) (hgG : g < G) : Rdr w' g A c l p good :=
  ⟨h.blk.only hg (by omega), h.row.only hg (Nat.le_of_lt h.blk.lt) (by omega), h.le, h.few⟩

/-- The operands that eight bytes are. -/
def xrO (l : List UInt8) (p : Nat) : Int := readV false l p true 1
def xrA (l : List UInt8) (p : Nat) : Int := readV false l (p + 1) true 1
def xrB (l : List UInt8) (p : Nat) : Int := readV false l (p + 2) true 1
def xrC (l : List UInt8) (p : Nat) : Int := readV false l (p + 3) true 1
def xrN (l : List UInt8) (p : Nat) : Int := readV true l (p + 4) true 4

theorem fits_yes (l : List UInt8) (p : Nat) (k : Int) (h1 : 1 ≤ k) (h8 : k ≤ 8) (h : p + k ≤ l.length) : fitsB l p true k = true ∧ readP l p true k = p + k.toNat := by
  have : fitsB l p true k = true := by unfold fitsB; simp; omega
  exact ⟨this, by unfold readP; rw [if_pos this]⟩

theorem fi0 (w : World) : (Instr.index 230 (.agg frmC) (.int .i64 0)).run Tryz.prog w = .ok (.agg #[.int .i64 0, .int .i64 255, .int .i64 1, .func (.func 190) #[] #[]]) w := by kernel_rfl
theorem fi1 (w : World) : (Instr.index 230 (.agg frmC) (.int .i64 1)).run Tryz.prog w = .ok (.agg #[.int .i64 0, .int .i64 255, .int .i64 1, .func (.func 190) #[] #[]]) w := by kernel_rfl
theorem fi2 (w : World) : (Instr.index 230 (.agg frmC) (.int .i64 2)).run Tryz.prog w = .ok (.agg #[.int .i64 0, .int .i64 255, .int .i64 1, .func (.func 190) #[] #[]]) w := by kernel_rfl
theorem fi3 (w : World) : (Instr.index 230 (.agg frmC) (.int .i64 3)).run Tryz.prog w = .ok (.agg #[.int .i64 (-2147483648), .int .i64 2147483647, .int .i64 4, .func (.func 269) #[] #[]]) w := by kernel_rfl

/-- A read of a number that is there. -/
theorem num_there (w : World) (g : Nat) (A : Option Addr) (c : Nat) (l : List UInt8) (p : Nat) (h : Rdr w g A c l p true) (hp : p + 1 ≤ l.length) :
    Calls Tryz.prog 190 #[.pointer (some ⟨g, 0, none⟩), .int .i64 1] w fun e w' => e = .returned (.int .i64 (readV false l p true 1)) ∧ Rdr w' g A c l (p + 1) true ∧ w.grownBy w' (some g) := by
  have hf := fits_yes l p 1 (by omega) (by omega) (by omega)
  refine (num_any w g A c l p true h 1).mono fun e w' ⟨h1, h2, h3⟩ => ⟨h1, ?_, h3⟩
  rw [hf.1, hf.2] at h2
  exact h2

theorem signed_there (w : World) (g : Nat) (A : Option Addr) (c : Nat) (l : List UInt8) (p : Nat) (h : Rdr w g A c l p true) (hp : p + 4 ≤ l.length) :
    Calls Tryz.prog 269 #[.pointer (some ⟨g, 0, none⟩), .int .i64 4] w fun e w' => e = .returned (.int .i64 (readV true l p true 4)) ∧ Rdr w' g A c l (p + 4) true ∧ w.grownBy w' (some g) := by
  have hf := fits_yes l p 4 (by omega) (by omega) (by omega)
  refine (signed_any w g A c l p true h 4).mono fun e w' ⟨h1, h2, h3⟩ => ⟨h1, ?_, h3⟩
  rw [hf.1, hf.2] at h2
  exact h2

set_option maxHeartbeats 8000000 in
theorem itake_any (w : World) (g : Nat) (A : Option Addr) (c : Nat) (l : List UInt8) (p : Nat) (h : Rdr w g A c l p true) (hp : p + 8 ≤ l.length) :
    Calls Tryz.prog 281 #[.pointer (some ⟨g, 0, none⟩)] w fun e w' => e = .returned (.agg (insC (xrO l p) (xrA l p) (xrB l p) (xrC l p) (xrN l p))) ∧ Rdr w' g A c l (p + 8) true ∧ w.grownBy w' (some g) := by
  have hgl := h.blk.lt
  have HA := Lib.hid (only_alloc (only_refl w g) (.cells (insC 0 0 0 0 0) 94))
  have HZ := Lib.hid (Blk.new w 94 (insC 0 0 0 0 0))
  have H0 := Lib.hid (num_there (w.alloc (.cells (insC 0 0 0 0 0) 94)) g A c l p (h.below ((Below.refl w.heap.size w).alloc (Nat.le_refl _) _) hgl) (by omega))
  obtain ⟨xo, Eo⟩ : ∃ x, Hid (readV false l p true 1 = x) := ⟨_, Lib.hid rfl⟩
  obtain ⟨xa, Ea⟩ : ∃ x, Hid (readV false l (p + 1) true 1 = x) := ⟨_, Lib.hid rfl⟩
  obtain ⟨xb, Eb⟩ : ∃ x, Hid (readV false l (p + 2) true 1 = x) := ⟨_, Lib.hid rfl⟩
  obtain ⟨xc, Ec⟩ : ∃ x, Hid (readV false l (p + 3) true 1 = x) := ⟨_, Lib.hid rfl⟩
  obtain ⟨xn, En⟩ : ∃ x, Hid (readV true l (p + 4) true 4 = x) := ⟨_, Lib.hid rfl⟩
  rw [Eo.out] at H0
  rw [show xrO l p = xo from Eo.out, show xrA l p = xa from Ea.out, show xrB l p = xb from Eb.out, show xrC l p = xc from Ec.out, show xrN l p = xn from En.out]
  unfold insC at H0
  clear h
  go_enter Tryz.func281, Tryz.ntmps281
  go_wp2_with fail
  refine H0.out.mono ?_
  rintro e w1 ⟨rfl, hr, ho⟩
  have hs1 : w.heap.size + 1 ≤ w1.heap.size := by simpa using ho.size
  have G1 := Lib.hid (only_trans HA.out ho)
  have Z1 := Lib.hid (HZ.out.only ho (by omega))
  have R1 := Lib.hid hr
  have f0 := fi0
  have f1 := fi1
  have f2 := fi2
  have f3 := fi3
  clear hr ho HA HZ H0
  go_wp2_with fail
  refine (forms_any _).mono ?_
  rintro e w2 ⟨rfl, hb⟩
  have hs2 : w1.heap.size + 1 ≤ w2.heap.size := by simpa using hb.size
  have hbb := ((Below.refl w1.heap.size w1).alloc (Nat.le_refl _) (.cells (aptC 0 0 0 0) 181)).trans (hb.mono (by simp))
  have L2 := Lib.hid ((Blk.new w1 181 (aptC 0 0 0 0)).below hb (by simp))
  have G2 := Lib.hid (only_trans G1.out (only_of_below g hbb))
  have Z2 := Lib.hid (Z1.out.below hbb (by omega))
  have R2 := Lib.hid (R1.out.below hbb (by omega))
  clear hb hbb Z1 R1 G1
  generalize w1.heap.size = gl at hs1 hs2 L2 ⊢
  go_wp2_with fail
  refine wp_loop_rounds 5 ?_
  rw [rounds_succ]
  have D0 := Lib.hid (num_there (w2.alloc (.cells #[.int .i64 0, .int .i64 255, .int .i64 1, .func (.func 190) #[] #[]] 229)) g A c l (p + 1) (R2.out.below ((Below.refl w2.heap.size w2).alloc (Nat.le_refl _) _) (by omega)) (by omega))
  rw [Ea.out] at D0
  go_wp2_with fail
  refine D0.out.mono ?_
  rintro e w3 ⟨rfl, hr, ho⟩
  have hs3 : w2.heap.size + 1 ≤ w3.heap.size := by simpa using ho.size
  have hoa := only_trans (only_alloc (only_refl w2 g) (.cells #[.int .i64 0, .int .i64 255, .int .i64 1, .func (.func 190) #[] #[]] 229)) ho
  have L3 := Lib.hid (L2.out.only hoa (by omega))
  have Z3 := Lib.hid (Z2.out.only hoa (by omega))
  have G3 := Lib.hid (only_trans G2.out hoa)
  have R3 := Lib.hid hr
  have k0 : w3.cell? ⟨gl, 0, none⟩ = some (.int .i64 0) := by rw [L3.out.cell]; rfl
  have k1 : w3.frozen? ⟨gl, 0, none⟩ = false := L3.out.frozen 0
  have k2 : gl < w3.heap.size := by omega
  clear hr ho hoa L2 Z2 G2 R2 D0
  go_wp2_with fail
  obtain ⟨w4, hw4⟩ : ∃ w4, w3.setCell ⟨gl, 0, none⟩ (.int .i64 xa) = w4 := ⟨_, rfl⟩
  rw [hw4]
  have hse : w3.grownBy w4 (some gl) := by rw [← hw4]; exact only_set (only_refl w3 gl) 0 _
  have L4 : Hid (Blk w4 gl 181 (aptC xa 0 0 0)) := Lib.hid (by rw [← hw4]; exact L3.out.stored 0 (.int .i64 xa))
  have Z4 := Lib.hid (Z3.out.only hse (by omega))
  have R4 := Lib.hid (R3.out.only hse (by omega))
  have G4 := Lib.hid (show w.grownBy w4 (some g) from ⟨hse.os.trans G3.out.os, hse.tape.trans G3.out.tape, hse.output.trans G3.out.output, Nat.le_trans G3.out.size hse.size, fun i hi hne => (hse.block i (by omega) (fun e => by injection e; omega)).trans (G3.out.block i hi hne)⟩)
  have hs4 : w3.heap.size ≤ w4.heap.size := hse.size
  clear hse hw4 k0 k1 k2 L3 Z3 R3 G3
  rw [rounds_succ]
  have D1 := Lib.hid (num_there (w4.alloc (.cells #[.int .i64 0, .int .i64 255, .int .i64 1, .func (.func 190) #[] #[]] 229)) g A c l (p + 2) (R4.out.below ((Below.refl w4.heap.size w4).alloc (Nat.le_refl _) _) (by omega)) (by omega))
  rw [Eb.out] at D1
  go_wp2_with fail
  refine D1.out.mono ?_
  rintro e w5 ⟨rfl, hr, ho⟩
  have hs5 : w4.heap.size + 1 ≤ w5.heap.size := by simpa using ho.size
  have hoa := only_trans (only_alloc (only_refl w4 g) (.cells #[.int .i64 0, .int .i64 255, .int .i64 1, .func (.func 190) #[] #[]] 229)) ho
  have L5 := Lib.hid (L4.out.only hoa (by omega))
  have Z5 := Lib.hid (Z4.out.only hoa (by omega))
  have G5 := Lib.hid (only_trans G4.out hoa)
  have R5 := Lib.hid hr
  have k0 : w5.cell? ⟨gl, 1, none⟩ = some (.int .i64 0) := by rw [L5.out.cell]; rfl
  have k1 : w5.frozen? ⟨gl, 1, none⟩ = false := L5.out.frozen 1
  have k2 : gl < w5.heap.size := by omega
  clear hr ho hoa L4 Z4 G4 R4 D1
  go_wp2_with fail
  obtain ⟨w6, hw6⟩ : ∃ w6, w5.setCell ⟨gl, 1, none⟩ (.int .i64 xb) = w6 := ⟨_, rfl⟩
  rw [hw6]
  have hse : w5.grownBy w6 (some gl) := by rw [← hw6]; exact only_set (only_refl w5 gl) 1 _
  have L6 : Hid (Blk w6 gl 181 (aptC xa xb 0 0)) := Lib.hid (by rw [← hw6]; exact L5.out.stored 1 (.int .i64 xb))
  have Z6 := Lib.hid (Z5.out.only hse (by omega))
  have R6 := Lib.hid (R5.out.only hse (by omega))
  have G6 := Lib.hid (show w.grownBy w6 (some g) from ⟨hse.os.trans G5.out.os, hse.tape.trans G5.out.tape, hse.output.trans G5.out.output, Nat.le_trans G5.out.size hse.size, fun i hi hne => (hse.block i (by omega) (fun e => by injection e; omega)).trans (G5.out.block i hi hne)⟩)
  have hs6 : w5.heap.size ≤ w6.heap.size := hse.size
  clear hse hw6 k0 k1 k2 L5 Z5 R5 G5
  rw [rounds_succ]
  have D2 := Lib.hid (num_there (w6.alloc (.cells #[.int .i64 0, .int .i64 255, .int .i64 1, .func (.func 190) #[] #[]] 229)) g A c l (p + 3) (R6.out.below ((Below.refl w6.heap.size w6).alloc (Nat.le_refl _) _) (by omega)) (by omega))
  rw [Ec.out] at D2
  go_wp2_with fail
  refine D2.out.mono ?_
  rintro e w7 ⟨rfl, hr, ho⟩
  have hs7 : w6.heap.size + 1 ≤ w7.heap.size := by simpa using ho.size
  have hoa := only_trans (only_alloc (only_refl w6 g) (.cells #[.int .i64 0, .int .i64 255, .int .i64 1, .func (.func 190) #[] #[]] 229)) ho
  have L7 := Lib.hid (L6.out.only hoa (by omega))
  have Z7 := Lib.hid (Z6.out.only hoa (by omega))
  have G7 := Lib.hid (only_trans G6.out hoa)
  have R7 := Lib.hid hr
  have k0 : w7.cell? ⟨gl, 2, none⟩ = some (.int .i64 0) := by rw [L7.out.cell]; rfl
  have k1 : w7.frozen? ⟨gl, 2, none⟩ = false := L7.out.frozen 2
  have k2 : gl < w7.heap.size := by omega
  clear hr ho hoa L6 Z6 G6 R6 D2
  go_wp2_with fail
  obtain ⟨w8, hw8⟩ : ∃ w8, w7.setCell ⟨gl, 2, none⟩ (.int .i64 xc) = w8 := ⟨_, rfl⟩
  rw [hw8]
  have hse : w7.grownBy w8 (some gl) := by rw [← hw8]; exact only_set (only_refl w7 gl) 2 _
  have L8 : Hid (Blk w8 gl 181 (aptC xa xb xc 0)) := Lib.hid (by rw [← hw8]; exact L7.out.stored 2 (.int .i64 xc))
  have Z8 := Lib.hid (Z7.out.only hse (by omega))
  have R8 := Lib.hid (R7.out.only hse (by omega))
  have G8 := Lib.hid (show w.grownBy w8 (some g) from ⟨hse.os.trans G7.out.os, hse.tape.trans G7.out.tape, hse.output.trans G7.out.output, Nat.le_trans G7.out.size hse.size, fun i hi hne => (hse.block i (by omega) (fun e => by injection e; omega)).trans (G7.out.block i hi hne)⟩)
  have hs8 : w7.heap.size ≤ w8.heap.size := hse.size
  clear hse hw8 k0 k1 k2 L7 Z7 R7 G7
  rw [rounds_succ]
  have D3 := Lib.hid (signed_there (w8.alloc (.cells #[.int .i64 (-2147483648), .int .i64 2147483647, .int .i64 4, .func (.func 269) #[] #[]] 229)) g A c l (p + 4) (R8.out.below ((Below.refl w8.heap.size w8).alloc (Nat.le_refl _) _) (by omega)) (by omega))
  rw [En.out] at D3
  go_wp2_with fail
  refine D3.out.mono ?_
  rintro e w9 ⟨rfl, hr, ho⟩
  have hs9 : w8.heap.size + 1 ≤ w9.heap.size := by simpa using ho.size
  have hoa := only_trans (only_alloc (only_refl w8 g) (.cells #[.int .i64 (-2147483648), .int .i64 2147483647, .int .i64 4, .func (.func 269) #[] #[]] 229)) ho
  have L9 := Lib.hid (L8.out.only hoa (by omega))
  have Z9 := Lib.hid (Z8.out.only hoa (by omega))
  have G9 := Lib.hid (only_trans G8.out hoa)
  have R9 := Lib.hid hr
  have k0 : w9.cell? ⟨gl, 3, none⟩ = some (.int .i64 0) := by rw [L9.out.cell]; rfl
  have k1 : w9.frozen? ⟨gl, 3, none⟩ = false := L9.out.frozen 3
  have k2 : gl < w9.heap.size := by omega
  clear hr ho hoa L8 Z8 G8 R8 D3
  go_wp2_with fail
  obtain ⟨w10, hw10⟩ : ∃ w10, w9.setCell ⟨gl, 3, none⟩ (.int .i64 xn) = w10 := ⟨_, rfl⟩
  rw [hw10]
  have hse : w9.grownBy w10 (some gl) := by rw [← hw10]; exact only_set (only_refl w9 gl) 3 _
  have L10 : Hid (Blk w10 gl 181 (aptC xa xb xc xn)) := Lib.hid (by rw [← hw10]; exact L9.out.stored 3 (.int .i64 xn))
  have Z10 := Lib.hid (Z9.out.only hse (by omega))
  have R10 := Lib.hid (R9.out.only hse (by omega))
  have G10 := Lib.hid (show w.grownBy w10 (some g) from ⟨hse.os.trans G9.out.os, hse.tape.trans G9.out.tape, hse.output.trans G9.out.output, Nat.le_trans G9.out.size hse.size, fun i hi hne => (hse.block i (by omega) (fun e => by injection e; omega)).trans (G9.out.block i hi hne)⟩)
  have hs10 : w9.heap.size ≤ w10.heap.size := hse.size
  clear hse hw10 k0 k1 k2 L9 Z9 R9 G9
  rw [rounds_succ]
  have k0 : w10.cell? ⟨gl, 0, none⟩ = some (.int .i64 xa) := by rw [L10.out.cell]; rfl
  have k1 : w10.cell? ⟨gl, 1, none⟩ = some (.int .i64 xb) := by rw [L10.out.cell]; rfl
  have k2 : w10.cell? ⟨gl, 2, none⟩ = some (.int .i64 xc) := by rw [L10.out.cell]; rfl
  have k3 : w10.cell? ⟨gl, 3, none⟩ = some (.int .i64 xn) := by rw [L10.out.cell]; rfl
  have k4 : gl < w10.heap.size := by omega
  go_wp2_with fail
  refine (together_any _ _ _ _ _ _).mono ?_
  rintro e w11 ⟨rfl, hb⟩
  have hsd := hb.size
  have ZD := Z10.out.below hb (by omega)
  have RD := Lib.hid (R10.out.below hb (by omega))
  have GD := Lib.hid (only_trans G10.out (only_of_below g hb))
  have m0 : w11.cell? ⟨w.heap.size, 0, none⟩ = some (.int .i64 0) := by rw [ZD.cell]; rfl
  have m1 : w11.cell? ⟨w.heap.size, 1, none⟩ = some (.int .i64 0) := by rw [ZD.cell]; rfl
  have m2 : w11.cell? ⟨w.heap.size, 2, none⟩ = some (.int .i64 0) := by rw [ZD.cell]; rfl
  have m3 : w11.cell? ⟨w.heap.size, 3, none⟩ = some (.int .i64 0) := by rw [ZD.cell]; rfl
  have m4 : w11.cell? ⟨w.heap.size, 4, none⟩ = some (.int .i64 0) := by rw [ZD.cell]; rfl
  have n0 : w11.frozen? ⟨w.heap.size, 0, none⟩ = false := ZD.frozen 0
  have n1 : w11.frozen? ⟨w.heap.size, 1, none⟩ = false := ZD.frozen 1
  have n2 : w11.frozen? ⟨w.heap.size, 2, none⟩ = false := ZD.frozen 2
  have n3 : w11.frozen? ⟨w.heap.size, 3, none⟩ = false := ZD.frozen 3
  have n4 : w11.frozen? ⟨w.heap.size, 4, none⟩ = false := ZD.frozen 4
  have l1 : w.heap.size < w11.heap.size := by omega
  clear hb ZD k0 k1 k2 k3 k4 L10 Z10 G10 R10
  unfold insC
  go_wp2_with fail
  refine bodyPost_ret (v := .agg (insC _ _ _ _ _)) ?_ rfl ⟨rfl, ?_, ?_⟩
  · simp [insC, results, Tryz.results281, go_sem, m0, m1, m2, m3, m4]
  · exact ((((RD.out.only (only_set (only_refl _ w.heap.size) 0 _) hgl).only (only_set (only_refl _ w.heap.size) 1 _) hgl).only (only_set (only_refl _ w.heap.size) 2 _) hgl).only (only_set (only_refl _ w.heap.size) 3 _) hgl).only (only_set (only_refl _ w.heap.size) 4 _) hgl
  · have step : ∀ (x : World) (i : Nat) (u : Value), w.grownBy x (some g) → w.grownBy (x.setCell ⟨w.heap.size, i, none⟩ u) (some g) := fun x i u hx =>
      ⟨hx.os, hx.tape, hx.output, by simpa [World.setCell] using hx.size, fun k hk hne => (Below.heap_setCell x ⟨w.heap.size, i, none⟩ u k (fun e => by subst e; exact Nat.lt_irrefl _ hk)).trans (hx.block k hk hne)⟩
    exact step _ _ _ (step _ _ _ (step _ _ _ (step _ _ _ (step _ _ _ GD.out))))
end Go.Proofs.YtbknmapkdjmcjaaGreatDoor.By
