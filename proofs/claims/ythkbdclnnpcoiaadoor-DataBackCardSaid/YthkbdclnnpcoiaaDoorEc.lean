/-
  WALKS of layer 15: data of bytes: take, Get.
-/
import Derived.Test.YthkbdclnnpcoiaaDoorEd
namespace Go.Proofs.YthkbdclnnpcoiaaDoor.By
open Go.RowKit
open Mem Gm Rf
set_option linter.unusedSimpArgs false
set_option linter.unusedVariables false

/-- The next reference: how the reader stands behind it; what it is; whether it may be. -/
def t3 (l : List UInt8) (s : Std) : Std := stN l s 3
def tkW (l : List UInt8) (s : Std) : Int := rvS l (stN l s 2) 1
def tkX (l : List UInt8) (s : Std) : Rl := (rvS l s 1, rvS l (stN l s 1) 1, tkW l s == 1)
def tkR (l : List UInt8) (s : Std) : Rl := if 1 < tkW l s then (0, 0, false) else tkX l s

/-- The next n references, and how the reader stands; and the words ahead. -/
def rfs (l : List UInt8) : Nat → Std → Option (List Rl) × Std
  | 0, s => (some [], s)
  | n + 1, s => if 1 < tkW l s then (none, t3 l s) else ((rfs l n (t3 l s)).1.map (tkX l s :: ·), (rfs l n (t3 l s)).2)
def wst (l : List UInt8) : Nat → Std → Std
  | 0, s => s
  | n + 1, s => wst l n (pgS l s 8)
def wds (l : List UInt8) : Nat → Std → List Int
  | 0, _ => []
  | n + 1, s => rvS l s 8 :: wds l n (pgS l s 8)
theorem wds_len (l : List UInt8) : ∀ n s, (wds l n s).length = n
  | 0, _ => rfl
  | n + 1, s => by rw [wds, List.length_cons, wds_len]
theorem num_one (l : List UInt8) (s : Std) : 0 ≤ rvS l s 1 ∧ rvS l s 1 ≤ 255 := by
  unfold rvS readV
  split
  · have hl : ((l.drop s.1).take (1 : Int).toNat).length ≤ 1 := by rw [List.length_take]; exact Nat.min_le_left _ _
    cases hq : (l.drop s.1).take (1 : Int).toNat with
    | nil => exact ⟨Int.le_refl _, by show (0 : Int) ≤ 255; omega⟩
    | cons x r =>
      rw [hq] at hl
      rw [numV_plain]
      have h1 := natV_lt (x :: r)
      have h2 : (x :: r).length = 1 := by rw [List.length_cons] at hl ⊢; omega
      rw [h2] at h1
      rw [wrap_in _ ⟨by omega, by omega⟩]
      omega
  · omega
/-- With a sign, of eight bytes, is without. -/
theorem rv_eight (l : List UInt8) (s : Std) : readV true l s.1 s.2 8 = rvS l s 8 := by
  unfold rvS readV
  split
  · rename_i hf
    unfold fitsB at hf
    rw [Bool.and_eq_true, decide_eq_true_eq] at hf
    have hl : ((l.drop s.1).take (8 : Int).toNat).length = 8 := by
      rw [List.length_take, List.length_drop]
      have := hf.2.2.2
      show min 8 _ = 8
      omega
    cases hq : (l.drop s.1).take (8 : Int).toNat with
    | nil => rw [hq] at hl; simp at hl
    | cons x r =>
      rw [hq] at hl
      rw [numV_plain, numV_sign]
      have h7 : r.length + 1 = 8 := by rw [List.length_cons] at hl; exact hl
      rw [h7]
      by_cases hx : 128 ≤ x.toNat
      · rw [if_pos hx]
        exact wrap_again _ _ (-1) (by omega)
      · rw [if_neg hx]; rfl
  · rfl

def SgS (w : World) (g : Nat) (A : Option Addr) (c : Nat) (l : List UInt8) (s : Std) (e : Ending) (w' : World) : Prop :=
  e = .returned (.int .i64 (rvS l s 8)) ∧ RdS w' g A c l (pgS l s 8) ∧ w.grownBy w' (some g)
theorem signed_s (w : World) (g : Nat) (A : Option Addr) (c : Nat) (l : List UInt8) (s : Std) (h : RdS w g A c l s) : Calls Tryd.prog 39 #[.pointer (some ⟨g, 0, none⟩), .int .i64 8] w (SgS w g A c l s) := by
  have := signed_any w g A c l s.1 s.2 h 8
  refine this.mono fun e w' hh => ?_
  obtain ⟨h1, h2, h3⟩ := hh
  exact ⟨by rw [h1, rv_eight], h2, h3⟩

def TkAns (l : List UInt8) (s : Std) (w : World) (g : Nat) (A : Option Addr) (c : Nat) (e : Ending) (w' : World) : Prop :=
  e = .returned (.tuple #[.agg #[.int .i64 (tkR l s).1, .int .i64 (tkR l s).2.1, .bool (tkR l s).2.2], .bool (decide (tkW l s ≤ 1))]) ∧ RdS w' g A c l (t3 l s) ∧ w.grownBy w' (some g)
theorem rd_put3 {w : World} {g : Nat} {A : Option Addr} {c : Nat} {l : List UInt8} {s : Std} (h : RdS w g A c l s) (r : Nat) (hr : g < r) (a b d : Value) : RdS (((w.setCell ⟨r, 0, none⟩ a).setCell ⟨r, 1, none⟩ b).setCell ⟨r, 2, none⟩ d) g A c l s :=
  rd_other (rd_other (rd_other h _ _ hr) _ _ hr) _ _ hr
theorem only_put3 {a b : World} {g : Nat} (h : a.grownBy b (some g)) (r : Nat) (hr : a.heap.size ≤ r) (x y z : Value) : a.grownBy (((b.setCell ⟨r, 0, none⟩ x).setCell ⟨r, 1, none⟩ y).setCell ⟨r, 2, none⟩ z) (some g) :=
  only_high (only_high (only_high h _ _ hr) _ _ hr) _ _ hr

set_option maxRecDepth 100000 in
set_option maxHeartbeats 4000000 in
theorem take_any (w : World) (g : Nat) (A : Option Addr) (c : Nat) (l : List UInt8) (s : Std) (h : RdS w g A c l s) :
    Calls Tryd.prog 40 #[.pointer (some ⟨g, 0, none⟩)] w (TkAns l s w g A c) := by
  have hg : g < w.heap.size := h.blk.lt
  obtain ⟨W, hW⟩ : ∃ W, w.alloc (.cells #[.int .i64 0, .int .i64 0, .bool false] 51) = W := ⟨_, rfl⟩
  have hB : Below w.heap.size w W := by rw [← hW]; exact alloc_ _ _
  have hb0 : Blk W w.heap.size 51 #[.int .i64 0, .int .i64 0, .bool false] := by rw [← hW]; exact Blk.new w _ _
  have HW0 := Lib.hid (show RdS W g A c l (stN l s 0) ∧ Blk W w.heap.size 51 #[.int .i64 0, .int .i64 0, .bool false] ∧ w.grownBy W (some g) from ⟨Rdr.below h hB hg, hb0, only_of_below g hB⟩)
  have HN := Lib.hid (fun W k (h : RdS W g A c l (stN l s k)) => num_s W g A c l (stN l s k) h 1)
  have HG := Lib.hid hg
  obtain ⟨z, hz⟩ : ∃ z, rvS l (stN l s 2) 1 = z := ⟨_, rfl⟩
  have HZ := Lib.hid (show tkW l s = z from hz)
  have HX := Lib.hid (show tkX l s = (rvS l (stN l s 0) 1, rvS l (stN l s 1) 1, z == 1) from by unfold tkX tkW; rw [hz]; rfl)
  have HN2 := Lib.hid (show ∀ W, RdS W g A c l (stN l s 2) → Calls Tryd.prog 38 #[.pointer (some ⟨g, 0, none⟩), .int .i64 1] W fun e w' => e = .returned (.int .i64 z) ∧ RdS w' g A c l (stN l s 3) ∧ W.grownBy w' (some g) from fun W hh => (HN.out W 2 hh).mono fun e w' h9 => by unfold NumS at h9; rw [hz] at h9; exact h9)
  clear h hB hb0 hg hz
  by_cases h1 : 1 < z
  · have HE := Lib.hid (show decide (tkW l s ≤ 1) = false from by rw [HZ.out]; simp; omega)
    have HR := Lib.hid (show tkR l s = (0, 0, false) from by unfold tkR; rw [HZ.out, if_pos h1])
    go_enter Tryd.func40, Tryd.ntmps40
    go_wp2_with fail
    clear hW
    refine (HN.out _ 0 HW0.out.1).mono ?_
    rintro e w1 ⟨rfl, hr1, hg1⟩
    have HR1 := Lib.hid hr1
    have HGR1 := Lib.hid (only_to HW0.out.2.2 hg1)
    have HB1 := Lib.hid (blk_only HW0.out.2.1 hg1 (by have := HG.out; omega))
    clear hr1 hg1
    go_wp2_with fail
    refine (HN.out _ 1 HR1.out).mono ?_
    rintro e w2 ⟨rfl, hr2, hg2⟩
    have HR2 := Lib.hid hr2
    have HGR2 := Lib.hid (only_to HGR1.out hg2)
    have HB2 := Lib.hid (blk_only HB1.out hg2 (by have := HG.out; omega))
    clear hr2 hg2
    go_wp2_with fail
    refine (HN2.out _ HR2.out).mono ?_
    rintro e w3 ⟨rfl, hr3, hg3⟩
    have HR3 := Lib.hid hr3
    have HGR3 := Lib.hid (only_to HGR2.out hg3)
    have HB3 := Lib.hid (blk_only HB2.out hg3 (by have := HG.out; omega))
    clear hr3 hg3
    obtain ⟨r0, r1, r2⟩ := blk_ce3 HB3.out
    obtain ⟨q0, q1, q2⟩ := blk_fr3 HB3.out
    go_wp2_with fail
    refine bodyPost_ret (v := .tuple #[.agg #[.int .i64 0, .int .i64 0, .bool false], .bool false]) (by simp [results, Tryd.results40, go_sem, r0, r1, r2]) rfl ⟨by rw [HE.out, HR.out], rd_put3 HR3.out _ (by have := HG.out; omega) _ _ _, only_put3 HGR3.out _ (Nat.le_refl _) _ _ _⟩
  · have HE := Lib.hid (show decide (tkW l s ≤ 1) = true from by rw [HZ.out]; simp; omega)
    have HR := Lib.hid (show tkR l s = (rvS l (stN l s 0) 1, rvS l (stN l s 1) 1, z == 1) from by unfold tkR; rw [HZ.out, if_neg h1, HX.out])
    obtain ⟨be, hbe⟩ : ∃ be, (z == 1) = be := ⟨_, rfl⟩
    rw [hbe] at HR
    go_enter Tryd.func40, Tryd.ntmps40
    go_wp2_with fail
    clear hW
    refine (HN.out _ 0 HW0.out.1).mono ?_
    rintro e w1 ⟨rfl, hr1, hg1⟩
    have HR1 := Lib.hid hr1
    have HGR1 := Lib.hid (only_to HW0.out.2.2 hg1)
    have HB1 := Lib.hid (blk_only HW0.out.2.1 hg1 (by have := HG.out; omega))
    clear hr1 hg1
    go_wp2_with fail
    refine (HN.out _ 1 HR1.out).mono ?_
    rintro e w2 ⟨rfl, hr2, hg2⟩
    have HR2 := Lib.hid hr2
    have HGR2 := Lib.hid (only_to HGR1.out hg2)
    have HB2 := Lib.hid (blk_only HB1.out hg2 (by have := HG.out; omega))
    clear hr2 hg2
    go_wp2_with fail
    refine (HN2.out _ HR2.out).mono ?_
    rintro e w3 ⟨rfl, hr3, hg3⟩
    have HR3 := Lib.hid hr3
    have HGR3 := Lib.hid (only_to HGR2.out hg3)
    have HB3 := Lib.hid (blk_only HB2.out hg3 (by have := HG.out; omega))
    clear hr3 hg3
    obtain ⟨r0, r1, r2⟩ := blk_ce3 HB3.out
    obtain ⟨q0, q1, q2⟩ := blk_fr3 HB3.out
    go_wp2_with fail
    refine bodyPost_ret (v := .tuple #[.agg #[.int .i64 _, .int .i64 _, .bool be], .bool true]) (by simp [results, Tryd.results40, go_sem, r0, r1, r2]; (try exact ⟨rfl, rfl⟩)) rfl ⟨by rw [HE.out, HR.out], rd_put3 HR3.out _ (by have := HG.out; omega) _ _ _, only_put3 HGR3.out _ (Nat.le_refl _) _ _ _⟩
end Go.Proofs.YthkbdclnnpcoiaaDoor.By
