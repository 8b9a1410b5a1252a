/-
  WALKS of layer 28: frames, marks, sizes: the program's, and the document's.
-/
import Derived.Test.YtbcabomblfehlabRe
import Derived.BigQuiet
import Derived.Deep.QuietTactic
namespace Go.Proofs.Ytbcabomblfehlab.Bo
open Go.RowKit Go.Maps
open Mem Rf
set_option linter.unusedSimpArgs false
set_option linter.unusedVariables false

def nearV (x a b : Int) : Int := if x < a then a else if b < x then b else x
theorem near_any (x a b : Int) (w : World) : Calls Try.prog 44 #[.int .i64 x, .int .i64 a, .int .i64 b] w fun e w' => e = .returned (.int .i64 (nearV x a b)) ∧ w' = w := by
  unfold nearV
  by_cases h1 : x < a
  · rw [if_pos h1]
    go_enter Try.func44, Try.ntmps44
    go_wp2_with fail
    go_ret
    exact ⟨rfl, rfl⟩
  · rw [if_neg h1]
    by_cases h2 : b < x
    · rw [if_pos h2]
      go_enter Try.func44, Try.ntmps44
      go_wp2_with fail
      go_ret
      exact ⟨rfl, rfl⟩
    · rw [if_neg h2]
      go_enter Try.func44, Try.ntmps44
      go_wp2_with fail
      go_ret
      exact ⟨rfl, rfl⟩
theorem rnear_any (x a b : Int) (w : World) : Calls Try.prog 45 #[.int .i64 x, .int .i64 a, .int .i64 b] w fun e w' => e = .returned (.int .i64 (nearV x a b)) ∧ w' = w := by
  unfold nearV
  by_cases h1 : x < a
  · rw [if_pos h1]
    go_enter Try.func45, Try.ntmps45
    go_wp2_with fail
    go_ret
    exact ⟨rfl, rfl⟩
  · rw [if_neg h1]
    by_cases h2 : b < x
    · rw [if_pos h2]
      go_enter Try.func45, Try.ntmps45
      go_wp2_with fail
      go_ret
      exact ⟨rfl, rfl⟩
    · rw [if_neg h2]
      go_enter Try.func45, Try.ntmps45
      go_wp2_with fail
      go_ret
      exact ⟨rfl, rfl⟩
theorem near_in (x : Int) : 0 ≤ nearV x 0 1048576 ∧ nearV x 0 1048576 ≤ 1048576 := by
  unfold nearV
  split
  · omega
  · split <;> omega
/-- How many words a function's frame has. -/
def frV (F : Fc) : Int := (F.kinds.2.1 : Int) + nearV F.pad 0 1048576
theorem frV_in (F : Fc) (h : F.kinds.2.1 ≤ 1000) : 0 ≤ frV F ∧ frV F ≤ 1050000 := by
  have := near_in F.pad
  unfold frV; omega
set_option maxRecDepth 100000 in
theorem frame_any (F : Fc) (hF : F.kinds.2.1 ≤ 1000) (w : World) : Calls Try.prog 30 #[.agg (encFc F).toArray] w fun e w' => e = .returned (.int .i64 (frV F)) ∧ Below w.heap.size w w' := by
  have HN := Lib.hid (fun W => near_any F.pad 0 1048576 W)
  have hn := near_in F.pad
  unfold frV
  obtain ⟨cl, ⟨kA, kn, kc⟩, pd, no, fr, tt, ⟨lA, ln, lc⟩, ⟨cA, cn, cc⟩, ⟨rA, rn, rc⟩⟩ := F
  unfold encFc slV
  dsimp only at HN hn hF ⊢
  obtain ⟨z, hz⟩ : ∃ z, nearV pd 0 1048576 = z := ⟨_, rfl⟩
  rw [hz] at HN hn ⊢
  clear hz
  have hs : IntKind.i64.wrap ((kn : Int) + z) = (kn : Int) + z := IntWalk.i64_in _ (by omega)
  obtain ⟨W0, hW0⟩ : ∃ W0, w.alloc (.cells #[.int .i64 cl, .slice kA kn kc, .int .i64 pd, .bool no, .int .i64 fr, .int .i64 tt, .slice lA ln lc, .slice cA cn cc, .slice rA rn rc] 73) = W0 := ⟨_, rfl⟩
  have HB0 := Lib.hid (show Below w.heap.size w W0 from by rw [← hW0]; exact alloc_ _ _)
  have hbk : Blk W0 w.heap.size 73 #[.int .i64 cl, .slice kA kn kc, .int .i64 pd, .bool no, .int .i64 fr, .int .i64 tt, .slice lA ln lc, .slice cA cn cc, .slice rA rn rc] := by rw [← hW0]; exact Blk.new _ _ _
  have x1 : W0.cell? ⟨w.heap.size, 1, none⟩ = some (.slice kA kn kc) := hbk.cell 1
  have x2 : W0.cell? ⟨w.heap.size, 2, none⟩ = some (.int .i64 pd) := hbk.cell 2
  clear hbk
  go_enter Try.func30, Try.ntmps30
  go_wp2_with fail
  clear hW0
  go_quiet ((go_at_call 44; exact Calls.quiet_of_same (HN.out _)))
  go_wp2_with fail
  go_ret
  exact ⟨rfl, below_drewN HB0.out _⟩
set_option maxRecDepth 100000 in
theorem rframe_any (F : Fc) (hF : F.kinds.2.1 ≤ 1000) (w : World) : Calls Try.prog 31 #[.agg (encFc F).toArray] w fun e w' => e = .returned (.int .i64 (frV F)) ∧ Below w.heap.size w w' := by
  have HN := Lib.hid (fun W => rnear_any F.pad 0 1048576 W)
  have hn := near_in F.pad
  unfold frV
  obtain ⟨cl, ⟨kA, kn, kc⟩, pd, no, fr, tt, ⟨lA, ln, lc⟩, ⟨cA, cn, cc⟩, ⟨rA, rn, rc⟩⟩ := F
  unfold encFc slV
  dsimp only at HN hn hF ⊢
  obtain ⟨z, hz⟩ : ∃ z, nearV pd 0 1048576 = z := ⟨_, rfl⟩
  rw [hz] at HN hn ⊢
  clear hz
  have hs : IntKind.i64.wrap ((kn : Int) + z) = (kn : Int) + z := IntWalk.i64_in _ (by omega)
  obtain ⟨W0, hW0⟩ : ∃ W0, w.alloc (.cells #[.int .i64 cl, .slice kA kn kc, .int .i64 pd, .bool no, .int .i64 fr, .int .i64 tt, .slice lA ln lc, .slice cA cn cc, .slice rA rn rc] 73) = W0 := ⟨_, rfl⟩
  have HB0 := Lib.hid (show Below w.heap.size w W0 from by rw [← hW0]; exact alloc_ _ _)
  have hbk : Blk W0 w.heap.size 73 #[.int .i64 cl, .slice kA kn kc, .int .i64 pd, .bool no, .int .i64 fr, .int .i64 tt, .slice lA ln lc, .slice cA cn cc, .slice rA rn rc] := by rw [← hW0]; exact Blk.new _ _ _
  have x1 : W0.cell? ⟨w.heap.size, 1, none⟩ = some (.slice kA kn kc) := hbk.cell 1
  have x2 : W0.cell? ⟨w.heap.size, 2, none⟩ = some (.int .i64 pd) := hbk.cell 2
  clear hbk
  go_enter Try.func31, Try.ntmps31
  go_wp2_with fail
  clear hW0
  go_quiet ((go_at_call 45; exact Calls.quiet_of_same (HN.out _)))
  go_wp2_with fail
  go_ret
  exact ⟨rfl, below_drewN HB0.out _⟩

/-! ### marks -/
def encB (b : Bool) : List Value := [.bool b]
theorem encB_len (z : Bool) : (encB z).length = 1 := rfl
def BL (w : World) (A : Option Addr) (n c : Nat) (l : List Bool) : Prop := Wd 1 encB w w.heap.size A n c l
theorem BL.on {w w' : World} {A : Option Addr} {n c : Nat} {l : List Bool} (h : BL w A n c l) (hb : Below w.heap.size w w') : BL w' A n c l := (Wd.below h hb).more hb.size
theorem BL.at_ {w : World} {A : Option Addr} {n c : Nat} {l : List Bool} (h : BL w A n c l) {i : Nat} (hi : i < n) : ∃ ad, A = some ad ∧ ad.block < w.heap.size ∧ w.cell? (ad.add i) = some (.bool (l.getD i false)) := by
  have hl : i < l.length := by rw [h.1]; exact hi
  obtain ⟨ad, e, hb, hc⟩ := h.2.2.2.2 i (l.getD i false) (by rw [List.getD_eq_getElem?_getD, List.getElem?_eq_getElem hl]; rfl)
  have := hc 0 _ rfl
  rw [Nat.mul_one] at this
  exact ⟨ad, e, hb, by rw [show (ad.add i).add 0 = ad.add i from by unfold Addr.add; simp] at this; exact this⟩
theorem BL.few {w : World} {A : Option Addr} {n c : Nat} {l : List Bool} (h : BL w A n c l) : n ≤ 9223372036854775807 := by
  have h1 := h.2.1
  have h2 := h.2.2.1
  unfold maxLen at h2; omega
theorem IL.few {w : World} {A : Option Addr} {n c : Nat} {l : List Int} (h : IL w A n c l) : n ≤ 9223372036854775807 := by
  have h1 := h.2.1
  have h2 := h.2.2.1
  unfold maxLen at h2; omega
theorem getD_out {α : Type} {l : List α} {i : Nat} {d : α} (h : l.length ≤ i) : l.getD i d = d := by rw [List.getD_eq_getElem?_getD, List.getElem?_eq_none h]; rfl
theorem marked_any (w : World) (A : Option Addr) (n c : Nat) (l : List Bool) (h : BL w A n c l) (i : Nat) : Calls Try.prog 61 #[.slice A n c, .int .i64 (i : Int)] w fun e w' => e = .returned (.bool (l.getD i false)) ∧ w' = w := by
  have hn := h.few
  by_cases hi : i < n
  · have hI : (i : Int) < (n : Int) := by omega
    have h0 : (0 : Int) ≤ (i : Int) := by omega
    obtain ⟨ad, rfl, hb, hc⟩ := h.at_ hi
    obtain ⟨b, hb9⟩ : ∃ b, l.getD i false = b := ⟨_, rfl⟩
    rw [hb9] at hc ⊢
    clear h hb9
    go_enter Try.func61, Try.ntmps61
    go_wp2_with fail
    go_ret
    exact ⟨rfl, rfl⟩
  · have hI : ¬ (i : Int) < (n : Int) := by omega
    rw [getD_out (show l.length ≤ i by rw [h.1]; omega)]
    clear h
    go_enter Try.func61, Try.ntmps61
    go_wp2_with fail
    go_ret
    exact ⟨rfl, rfl⟩

/-- A plan. -/
structure Pn where
  kA : Option Addr
  kn : Nat
  kc : Nat
  ks : List Bool
  cA : Option Addr
  cn : Nat
  cc : Nat
  cs : List Int
def pnV (p : Pn) : Value := .agg #[.slice p.kA p.kn p.kc, .slice p.cA p.cn p.cc]
structure PnR (w : World) (p : Pn) : Prop where
  k : BL w p.kA p.kn p.kc p.ks
  c : IL w p.cA p.cn p.cc p.cs
theorem PnR.on {w w' : World} {p : Pn} (h : PnR w p) (hb : Below w.heap.size w w') : PnR w' p := ⟨h.k.on hb, h.c.on hb⟩
/-- How many instructions a function has in an image. -/
def sizeV (P : Pgm) (p : Pn) (i : Int) : Int := if 0 ≤ i ∧ i < (P.fn : Int) ∧ p.ks.getD i.toNat false = true then ((gfAt P.fs i.toNat).F.code.2.1 : Int) + 1 + (if p.cs.getD i.toNat 0 ≠ 0 then 1 else 0) else 0
end Go.Proofs.Ytbcabomblfehlab.Bo
