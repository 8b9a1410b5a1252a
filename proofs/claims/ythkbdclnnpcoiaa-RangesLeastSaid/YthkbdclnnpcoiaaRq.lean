/-
  WALK of layer 18: the law RangesLeast.
-/
import Derived.Test.YthkbdclnnpcoiaaRk
namespace Go.Proofs.Ythkbdclnnpcoiaa.By
open Go.RowKit
open Mem Gm Rf
set_option linter.unusedSimpArgs false
set_option linter.unusedVariables false

theorem ls_inv (o : Nat → Bool) (k : Nat) : (pnT o k = [] ∧ lsP (pnT o k) = (0, 0)) ∨ ∃ a b, lsP (pnT o k) = (a, b) ∧ 1 ≤ b ∧ b ≤ (k : Int) ∧ a ∈ pnT o k ∧ b - 1 ∈ pnT o k ∧ ∀ x ∈ pnT o k, a ≤ x ∧ x < b := by
  induction k with
  | zero => exact .inl ⟨rfl, rfl⟩
  | succ k ih =>
    cases h : o k with
    | false =>
      rw [pnT_no h]
      rcases ih with ih | ⟨a, b, h1, h2, h3, h4⟩
      · exact .inl ih
      · exact .inr ⟨a, b, h1, h2, by omega, h4⟩
    | true =>
      right
      rw [pnT_yes h, lsP_snoc]
      rcases ih with ⟨h1, h2⟩ | ⟨a, b, h1, h2, h3, h4, h5, h6⟩
      · rw [h2, h1]
        refine ⟨(k : Int), (k : Int) + 1, rfl, by omega, by omega, by simp, by simp, fun x hx => ?_⟩
        simp at hx; omega
      · rw [h1]
        refine ⟨a, (k : Int) + 1, by rw [if_neg (show ¬ b = 0 by omega)], by omega, by omega, List.mem_append.2 (.inl h4), by simp, fun x hx => ?_⟩
        rcases List.mem_append.1 hx with hx | hx
        · have := h6 x hx; omega
        · have := h6 a h4
          obtain ⟨i, hi, hik, _⟩ := pnT_mem h4
          simp at hx; omega
theorem inB_iff (f t : Int) (xs : List Int) : inB f t xs = true ↔ ∀ x ∈ xs, f ≤ x ∧ x < t := by
  unfold inB; rw [List.all_eq_true]; simp
theorem ck_own (o : Nat → Bool) (k : Nat) {a b : Int} (h : lsP (pnT o k) = (a, b)) : ckV a b (pnT o k) = 0 := by
  unfold ckV
  rcases ls_inv o k with ⟨h1, _⟩ | ⟨a', b', h1, _, _, _, _, h6⟩
  · rw [h1]; rfl
  · rw [h] at h1; injection h1 with e1 e2; subst e1 e2
    rw [if_pos ((inB_iff _ _ _).2 h6)]
theorem ck_in (o : Nat → Bool) (k : Nat) {a b f t : Int} (h : lsP (pnT o k) = (a, b)) (h1 : f ≤ a) (h2 : b ≤ t) : ckV f t (pnT o k) = 0 := by
  unfold ckV
  rcases ls_inv o k with ⟨h3, _⟩ | ⟨a', b', h3, _, _, _, _, h6⟩
  · rw [h3]; rfl
  · rw [h] at h3; injection h3 with e1 e2; subst e1 e2
    rw [if_pos ((inB_iff _ _ _).2 fun x hx => by have := h6 x hx; omega)]
theorem ck_out (o : Nat → Bool) (k : Nat) {a b f t : Int} (h : lsP (pnT o k) = (a, b)) (hb : b ≠ 0) (h1 : ¬ (f ≤ a ∧ b ≤ t)) : ckV f t (pnT o k) = 9 := by
  unfold ckV
  rcases ls_inv o k with ⟨_, h3⟩ | ⟨a', b', h3, _, _, h4, h5, h6⟩
  · rw [h] at h3; injection h3 with e1 e2; exact absurd e2 hb
  · rw [h] at h3; injection h3 with e1 e2; subst e1 e2
    rw [if_neg fun hh => ?_]
    have hh := (inB_iff _ _ _).1 hh
    have := hh _ h4
    have := hh _ h5
    omega
theorem ck_none (o : Nat → Bool) (k : Nat) {a f t : Int} (h : lsP (pnT o k) = (a, 0)) : a = 0 ∧ ckV f t (pnT o k) = 0 := by
  rcases ls_inv o k with ⟨h1, h2⟩ | ⟨a', b', h3, h4, _⟩
  · rw [h] at h2; injection h2 with e1 e2
    rw [h1]; exact ⟨e1, rfl⟩
  · rw [h] at h3; injection h3 with e1 e2; omega

set_option maxHeartbeats 4000000 in
set_option maxRecDepth 100000 in
theorem rangesLeast_any (w : World) (k0 pd f t : Int) (ns : Bool) (AK AL A AR : Option Addr) (nK cK nL cL n c nR cR : Nat) (O T : Nat → Int) (p q : Int) (h : CW w A n c O T) :
    Calls Try.prog 4 #[.agg #[.int .i64 k0, .slice AK nK cK, .int .i64 pd, .bool ns, .int .i64 f, .int .i64 t, .slice AL nL cL, .slice A n c, .slice AR nR cR], .int .i64 p, .int .i64 q] w (TAns w) := by
  obtain ⟨W1, hW1⟩ : ∃ W1, w.alloc (.cells #[.int .i64 k0, .slice AK nK cK, .int .i64 pd, .bool ns, .int .i64 f, .int .i64 t, .slice AL nL cL, .slice A n c, .slice AR nR cR] 27) = W1 := ⟨_, rfl⟩
  have hsz1 : w.heap.size < W1.heap.size := by rw [← hW1]; simp
  have HB0 := Lib.hid (show Below w.heap.size w W1 by rw [← hW1]; exact alloc_ _ _)
  have HX := Lib.hid (show ∀ W, Below W1.heap.size W1 W → Blk W w.heap.size 27 #[.int .i64 k0, .slice AK nK cK, .int .i64 pd, .bool ns, .int .i64 f, .int .i64 t, .slice AL nL cL, .slice A n c, .slice AR nR cR] from fun W hb => (hb.block _ hsz1).trans (by rw [← hW1]; exact Blk.new w _ _))
  have HF := Lib.hid (few_any W1 k0 pd f t ns AK AL A AR nK cK nL cL n c nR cR)
  have HG := Lib.hid h
  obtain ⟨bf, hbf⟩ : ∃ b, fewB nK nL n nR = b := ⟨_, rfl⟩
  rw [hbf] at HF
  cases bf with
  | false =>
    clear hbf h
    go_enter Try.func4, Try.ntmps4
    obtain ⟨c0, c1, c2, c3, c4, c5, c6, c7, c8⟩ := blk9 (HX.out W1 (Below.refl _ _))
    go_wp2_with fail
    refine HF.out.mono ?_
    rintro e w1 ⟨rfl, b1⟩
    have HB1 := Lib.hid (to_ HB0.out b1)
    clear b1
    go_wp2_with fail
    refine (known18_any _).mono ?_
    rintro e w9 ⟨rfl, b9⟩
    have HB99 := Lib.hid (to_ HB1.out b9)
    clear b9
    go_wp2_with fail
    go_ret
    exact ⟨rfl, HB99.out⟩
  | true =>
    have hn : n ≤ 1000 := by unfold fewB at hbf; rw [decide_eq_true_eq] at hbf; omega
    have HN := Lib.hid hn
    obtain ⟨ab, hab⟩ : ∃ ab, lsP (pnT (pdO n O T) n) = ab := ⟨_, rfl⟩
    obtain ⟨a, b⟩ := ab
    have HAB := Lib.hid hab
    have HO := Lib.hid (ck_own _ _ hab)
    obtain ⟨x, hx⟩ : ∃ x, ckV p q (pnT (pdO n O T) n) = x := ⟨_, rfl⟩
    have HX9 := Lib.hid hx
    have hcases : (b = 0 ∧ a = 0 ∧ x = 0) ∨ (b ≠ 0 ∧ p ≤ a ∧ b ≤ q ∧ x = 0) ∨ (b ≠ 0 ∧ p ≤ a ∧ ¬ b ≤ q ∧ x = 9) ∨ (b ≠ 0 ∧ ¬ p ≤ a ∧ x = 9) := by
      rw [← hx]
      by_cases hb : b = 0
      · subst hb
        have := ck_none _ _ (f := p) (t := q) hab
        exact .inl ⟨rfl, this⟩
      · by_cases hp : p ≤ a
        · by_cases hq : b ≤ q
          · exact .inr (.inl ⟨hb, hp, hq, ck_in _ _ hab hp hq⟩)
          · exact .inr (.inr (.inl ⟨hb, hp, hq, ck_out _ _ hab hb fun hh => hq hh.2⟩))
        · exact .inr (.inr (.inr ⟨hb, hp, ck_out _ _ hab hb fun hh => hp hh.1⟩))
    clear hbf h hn hab hx
    obtain ⟨c0, c1, c2, c3, c4, c5, c6, c7, c8⟩ := blk9 (HX.out W1 (Below.refl _ _))
    rcases hcases with ⟨rfl, rfl, rfl⟩ | ⟨hb, hp, hq, rfl⟩ | ⟨hb, hp, hq, rfl⟩ | ⟨hb, hp, rfl⟩
    · go_enter Try.func4, Try.ntmps4
      go_wp2_with fail
      clear hW1
      refine HF.out.mono ?_
      rintro e w1 ⟨rfl, b1⟩
      have HB1 := Lib.hid b1
      clear b1
      obtain ⟨c0, c1, c2, c3, c4, c5, c6, c7, c8⟩ := blk9 (HX.out w1 HB1.out)
      go_wp2_with fail
      refine (least_w (HG.out.on (to_ HB0.out HB1.out)) HN.out HAB.out).mono ?_
      rintro e w2 ⟨rfl, b2⟩
      have HB2 := Lib.hid (to_ HB1.out b2)
      clear b2
      obtain ⟨c0, c1, c2, c3, c4, c5, c6, c7, c8⟩ := blk9 (HX.out w2 HB2.out)
      have hlt2 : w.heap.size < w2.heap.size := Nat.lt_of_lt_of_le hsz1 HB2.out.size
      go_wp2_with fail
      have hb3 : Below w2.heap.size w2 ((w2.alloc (.cells #[.int .i64 k0, .slice AK nK cK, .int .i64 pd, .bool ns, .int .i64 0, .int .i64 0, .slice AL nL cL, .slice A n c, .slice AR nR cR] 27)).alloc (.cells #[.int .i64 k0, .slice AK nK cK, .int .i64 pd, .bool ns, .int .i64 p, .int .i64 q, .slice AL nL cL, .slice A n c, .slice AR nR cR] 27)) := alloc2_ _ _ _
      have hh3 : Blk ((w2.alloc (.cells #[.int .i64 k0, .slice AK nK cK, .int .i64 pd, .bool ns, .int .i64 0, .int .i64 0, .slice AL nL cL, .slice A n c, .slice AR nR cR] 27)).alloc (.cells #[.int .i64 k0, .slice AK nK cK, .int .i64 pd, .bool ns, .int .i64 p, .int .i64 q, .slice AL nL cL, .slice A n c, .slice AR nR cR] 27)) (w2.heap.size + 1) 27 #[.int .i64 k0, .slice AK nK cK, .int .i64 pd, .bool ns, .int .i64 p, .int .i64 q, .slice AL nL cL, .slice A n c, .slice AR nR cR] := by
        have := Blk.new (w2.alloc (.cells #[.int .i64 k0, .slice AK nK cK, .int .i64 pd, .bool ns, .int .i64 0, .int .i64 0, .slice AL nL cL, .slice A n c, .slice AR nR cR] 27)) 27 #[.int .i64 k0, .slice AK nK cK, .int .i64 pd, .bool ns, .int .i64 p, .int .i64 q, .slice AL nL cL, .slice A n c, .slice AR nR cR]; rwa [World.size_alloc] at this
      have HB3 := Lib.hid (to_ HB2.out hb3)
      have HH3 := Lib.hid hh3
      clear hb3 hh3 c0 c1 c2 c3 c4 c5 c6 c7 c8
      refine (ckw (HG.out.on (to_ HB0.out HB3.out)) HN.out HO.out).mono ?_
      rintro e w4 ⟨rfl, b4⟩
      have HB4 := Lib.hid (to_ HB3.out b4)
      obtain ⟨c0, c1, c2, c3, c4, c5, c6, c7, c8⟩ := blk9 ((b4.block _ HH3.out.lt).trans HH3.out : Blk w4 (w2.heap.size + 1) 27 #[.int .i64 k0, .slice AK nK cK, .int .i64 pd, .bool ns, .int .i64 p, .int .i64 q, .slice AL nL cL, .slice A n c, .slice AR nR cR])
      clear b4
      go_wp2_with fail
      refine (ckw (HG.out.on (to_ HB0.out HB4.out)) HN.out HX9.out).mono ?_
      rintro e w5 ⟨rfl, b5⟩
      have HB5 := Lib.hid (to_ HB4.out b5)
      clear b5
      go_wp2_with fail
      refine (known18_any _).mono ?_
      rintro e w6 ⟨rfl, b6⟩
      have HB6 := Lib.hid (to_ HB5.out b6)
      clear b6
      go_wp2_with fail
      go_ret
      exact ⟨rfl, to_ HB0.out HB6.out⟩
    · have hbb : (b == 0) = false := by simpa using hb
      clear hb
      by_cases ha : a = 0
      · subst ha
        go_enter Try.func4, Try.ntmps4
        go_wp2_with fail
        clear hW1
        refine HF.out.mono ?_
        rintro e w1 ⟨rfl, b1⟩
        have HB1 := Lib.hid b1
        clear b1
        obtain ⟨c0, c1, c2, c3, c4, c5, c6, c7, c8⟩ := blk9 (HX.out w1 HB1.out)
        go_wp2_with fail
        refine (least_w (HG.out.on (to_ HB0.out HB1.out)) HN.out HAB.out).mono ?_
        rintro e w2 ⟨rfl, b2⟩
        have HB2 := Lib.hid (to_ HB1.out b2)
        clear b2
        obtain ⟨c0, c1, c2, c3, c4, c5, c6, c7, c8⟩ := blk9 (HX.out w2 HB2.out)
        have hlt2 : w.heap.size < w2.heap.size := Nat.lt_of_lt_of_le hsz1 HB2.out.size
        go_wp2_with fail
        have hb3 : Below w2.heap.size w2 ((w2.alloc (.cells #[.int .i64 k0, .slice AK nK cK, .int .i64 pd, .bool ns, .int .i64 0, .int .i64 b, .slice AL nL cL, .slice A n c, .slice AR nR cR] 27)).alloc (.cells #[.int .i64 k0, .slice AK nK cK, .int .i64 pd, .bool ns, .int .i64 p, .int .i64 q, .slice AL nL cL, .slice A n c, .slice AR nR cR] 27)) := alloc2_ _ _ _
        have hh3 : Blk ((w2.alloc (.cells #[.int .i64 k0, .slice AK nK cK, .int .i64 pd, .bool ns, .int .i64 0, .int .i64 b, .slice AL nL cL, .slice A n c, .slice AR nR cR] 27)).alloc (.cells #[.int .i64 k0, .slice AK nK cK, .int .i64 pd, .bool ns, .int .i64 p, .int .i64 q, .slice AL nL cL, .slice A n c, .slice AR nR cR] 27)) (w2.heap.size + 1) 27 #[.int .i64 k0, .slice AK nK cK, .int .i64 pd, .bool ns, .int .i64 p, .int .i64 q, .slice AL nL cL, .slice A n c, .slice AR nR cR] := by
          have := Blk.new (w2.alloc (.cells #[.int .i64 k0, .slice AK nK cK, .int .i64 pd, .bool ns, .int .i64 0, .int .i64 b, .slice AL nL cL, .slice A n c, .slice AR nR cR] 27)) 27 #[.int .i64 k0, .slice AK nK cK, .int .i64 pd, .bool ns, .int .i64 p, .int .i64 q, .slice AL nL cL, .slice A n c, .slice AR nR cR]; rwa [World.size_alloc] at this
        have HB3 := Lib.hid (to_ HB2.out hb3)
        have HH3 := Lib.hid hh3
        clear hb3 hh3 c0 c1 c2 c3 c4 c5 c6 c7 c8
        refine (ckw (HG.out.on (to_ HB0.out HB3.out)) HN.out HO.out).mono ?_
        rintro e w4 ⟨rfl, b4⟩
        have HB4 := Lib.hid (to_ HB3.out b4)
        obtain ⟨c0, c1, c2, c3, c4, c5, c6, c7, c8⟩ := blk9 ((b4.block _ HH3.out.lt).trans HH3.out : Blk w4 (w2.heap.size + 1) 27 #[.int .i64 k0, .slice AK nK cK, .int .i64 pd, .bool ns, .int .i64 p, .int .i64 q, .slice AL nL cL, .slice A n c, .slice AR nR cR])
        clear b4
        go_wp2_with fail
        refine (ckw (HG.out.on (to_ HB0.out HB4.out)) HN.out HX9.out).mono ?_
        rintro e w5 ⟨rfl, b5⟩
        have HB5 := Lib.hid (to_ HB4.out b5)
        clear b5
        go_wp2_with fail
        refine (known18_any _).mono ?_
        rintro e w6 ⟨rfl, b6⟩
        have HB6 := Lib.hid (to_ HB5.out b6)
        clear b6
        go_wp2_with fail
        go_ret
        exact ⟨rfl, to_ HB0.out HB6.out⟩
      · have haa : (a == 0) = false := by simpa using ha
        clear ha
        go_enter Try.func4, Try.ntmps4
        go_wp2_with fail
        clear hW1
        refine HF.out.mono ?_
        rintro e w1 ⟨rfl, b1⟩
        have HB1 := Lib.hid b1
        clear b1
        obtain ⟨c0, c1, c2, c3, c4, c5, c6, c7, c8⟩ := blk9 (HX.out w1 HB1.out)
        go_wp2_with fail
        refine (least_w (HG.out.on (to_ HB0.out HB1.out)) HN.out HAB.out).mono ?_
        rintro e w2 ⟨rfl, b2⟩
        have HB2 := Lib.hid (to_ HB1.out b2)
        clear b2
        obtain ⟨c0, c1, c2, c3, c4, c5, c6, c7, c8⟩ := blk9 (HX.out w2 HB2.out)
        have hlt2 : w.heap.size < w2.heap.size := Nat.lt_of_lt_of_le hsz1 HB2.out.size
        go_wp2_with fail
        have hb3 : Below w2.heap.size w2 ((w2.alloc (.cells #[.int .i64 k0, .slice AK nK cK, .int .i64 pd, .bool ns, .int .i64 a, .int .i64 b, .slice AL nL cL, .slice A n c, .slice AR nR cR] 27)).alloc (.cells #[.int .i64 k0, .slice AK nK cK, .int .i64 pd, .bool ns, .int .i64 p, .int .i64 q, .slice AL nL cL, .slice A n c, .slice AR nR cR] 27)) := alloc2_ _ _ _
        have hh3 : Blk ((w2.alloc (.cells #[.int .i64 k0, .slice AK nK cK, .int .i64 pd, .bool ns, .int .i64 a, .int .i64 b, .slice AL nL cL, .slice A n c, .slice AR nR cR] 27)).alloc (.cells #[.int .i64 k0, .slice AK nK cK, .int .i64 pd, .bool ns, .int .i64 p, .int .i64 q, .slice AL nL cL, .slice A n c, .slice AR nR cR] 27)) (w2.heap.size + 1) 27 #[.int .i64 k0, .slice AK nK cK, .int .i64 pd, .bool ns, .int .i64 p, .int .i64 q, .slice AL nL cL, .slice A n c, .slice AR nR cR] := by
          have := Blk.new (w2.alloc (.cells #[.int .i64 k0, .slice AK nK cK, .int .i64 pd, .bool ns, .int .i64 a, .int .i64 b, .slice AL nL cL, .slice A n c, .slice AR nR cR] 27)) 27 #[.int .i64 k0, .slice AK nK cK, .int .i64 pd, .bool ns, .int .i64 p, .int .i64 q, .slice AL nL cL, .slice A n c, .slice AR nR cR]; rwa [World.size_alloc] at this
        have HB3 := Lib.hid (to_ HB2.out hb3)
        have HH3 := Lib.hid hh3
        clear hb3 hh3 c0 c1 c2 c3 c4 c5 c6 c7 c8
        refine (ckw (HG.out.on (to_ HB0.out HB3.out)) HN.out HO.out).mono ?_
        rintro e w4 ⟨rfl, b4⟩
        have HB4 := Lib.hid (to_ HB3.out b4)
        obtain ⟨c0, c1, c2, c3, c4, c5, c6, c7, c8⟩ := blk9 ((b4.block _ HH3.out.lt).trans HH3.out : Blk w4 (w2.heap.size + 1) 27 #[.int .i64 k0, .slice AK nK cK, .int .i64 pd, .bool ns, .int .i64 p, .int .i64 q, .slice AL nL cL, .slice A n c, .slice AR nR cR])
        clear b4
        go_wp2_with fail
        refine (ckw (HG.out.on (to_ HB0.out HB4.out)) HN.out HX9.out).mono ?_
        rintro e w5 ⟨rfl, b5⟩
        have HB5 := Lib.hid (to_ HB4.out b5)
        clear b5
        go_wp2_with fail
        refine (known18_any _).mono ?_
        rintro e w6 ⟨rfl, b6⟩
        have HB6 := Lib.hid (to_ HB5.out b6)
        clear b6
        go_wp2_with fail
        go_ret
        exact ⟨rfl, to_ HB0.out HB6.out⟩
    · have hbb : (b == 0) = false := by simpa using hb
      clear hb
      have hq2 : decide (b ≤ q) = false := decide_eq_false hq
      clear hq
      by_cases ha : a = 0
      · subst ha
        go_enter Try.func4, Try.ntmps4
        go_wp2_with fail
        clear hW1
        refine HF.out.mono ?_
        rintro e w1 ⟨rfl, b1⟩
        have HB1 := Lib.hid b1
        clear b1
        obtain ⟨c0, c1, c2, c3, c4, c5, c6, c7, c8⟩ := blk9 (HX.out w1 HB1.out)
        go_wp2_with fail
        refine (least_w (HG.out.on (to_ HB0.out HB1.out)) HN.out HAB.out).mono ?_
        rintro e w2 ⟨rfl, b2⟩
        have HB2 := Lib.hid (to_ HB1.out b2)
        clear b2
        obtain ⟨c0, c1, c2, c3, c4, c5, c6, c7, c8⟩ := blk9 (HX.out w2 HB2.out)
        have hlt2 : w.heap.size < w2.heap.size := Nat.lt_of_lt_of_le hsz1 HB2.out.size
        go_wp2_with fail
        have hb3 : Below w2.heap.size w2 ((w2.alloc (.cells #[.int .i64 k0, .slice AK nK cK, .int .i64 pd, .bool ns, .int .i64 0, .int .i64 b, .slice AL nL cL, .slice A n c, .slice AR nR cR] 27)).alloc (.cells #[.int .i64 k0, .slice AK nK cK, .int .i64 pd, .bool ns, .int .i64 p, .int .i64 q, .slice AL nL cL, .slice A n c, .slice AR nR cR] 27)) := alloc2_ _ _ _
        have hh3 : Blk ((w2.alloc (.cells #[.int .i64 k0, .slice AK nK cK, .int .i64 pd, .bool ns, .int .i64 0, .int .i64 b, .slice AL nL cL, .slice A n c, .slice AR nR cR] 27)).alloc (.cells #[.int .i64 k0, .slice AK nK cK, .int .i64 pd, .bool ns, .int .i64 p, .int .i64 q, .slice AL nL cL, .slice A n c, .slice AR nR cR] 27)) (w2.heap.size + 1) 27 #[.int .i64 k0, .slice AK nK cK, .int .i64 pd, .bool ns, .int .i64 p, .int .i64 q, .slice AL nL cL, .slice A n c, .slice AR nR cR] := by
          have := Blk.new (w2.alloc (.cells #[.int .i64 k0, .slice AK nK cK, .int .i64 pd, .bool ns, .int .i64 0, .int .i64 b, .slice AL nL cL, .slice A n c, .slice AR nR cR] 27)) 27 #[.int .i64 k0, .slice AK nK cK, .int .i64 pd, .bool ns, .int .i64 p, .int .i64 q, .slice AL nL cL, .slice A n c, .slice AR nR cR]; rwa [World.size_alloc] at this
        have HB3 := Lib.hid (to_ HB2.out hb3)
        have HH3 := Lib.hid hh3
        clear hb3 hh3 c0 c1 c2 c3 c4 c5 c6 c7 c8
        refine (ckw (HG.out.on (to_ HB0.out HB3.out)) HN.out HO.out).mono ?_
        rintro e w4 ⟨rfl, b4⟩
        have HB4 := Lib.hid (to_ HB3.out b4)
        obtain ⟨c0, c1, c2, c3, c4, c5, c6, c7, c8⟩ := blk9 ((b4.block _ HH3.out.lt).trans HH3.out : Blk w4 (w2.heap.size + 1) 27 #[.int .i64 k0, .slice AK nK cK, .int .i64 pd, .bool ns, .int .i64 p, .int .i64 q, .slice AL nL cL, .slice A n c, .slice AR nR cR])
        clear b4
        go_wp2_with fail
        refine (ckw (HG.out.on (to_ HB0.out HB4.out)) HN.out HX9.out).mono ?_
        rintro e w5 ⟨rfl, b5⟩
        have HB5 := Lib.hid (to_ HB4.out b5)
        clear b5
        go_wp2_with fail
        refine (known18_any _).mono ?_
        rintro e w6 ⟨rfl, b6⟩
        have HB6 := Lib.hid (to_ HB5.out b6)
        clear b6
        go_wp2_with fail
        go_ret
        exact ⟨rfl, to_ HB0.out HB6.out⟩
      · have haa : (a == 0) = false := by simpa using ha
        clear ha
        go_enter Try.func4, Try.ntmps4
        go_wp2_with fail
        clear hW1
        refine HF.out.mono ?_
        rintro e w1 ⟨rfl, b1⟩
        have HB1 := Lib.hid b1
        clear b1
        obtain ⟨c0, c1, c2, c3, c4, c5, c6, c7, c8⟩ := blk9 (HX.out w1 HB1.out)
        go_wp2_with fail
        refine (least_w (HG.out.on (to_ HB0.out HB1.out)) HN.out HAB.out).mono ?_
        rintro e w2 ⟨rfl, b2⟩
        have HB2 := Lib.hid (to_ HB1.out b2)
        clear b2
        obtain ⟨c0, c1, c2, c3, c4, c5, c6, c7, c8⟩ := blk9 (HX.out w2 HB2.out)
        have hlt2 : w.heap.size < w2.heap.size := Nat.lt_of_lt_of_le hsz1 HB2.out.size
        go_wp2_with fail
        have hb3 : Below w2.heap.size w2 ((w2.alloc (.cells #[.int .i64 k0, .slice AK nK cK, .int .i64 pd, .bool ns, .int .i64 a, .int .i64 b, .slice AL nL cL, .slice A n c, .slice AR nR cR] 27)).alloc (.cells #[.int .i64 k0, .slice AK nK cK, .int .i64 pd, .bool ns, .int .i64 p, .int .i64 q, .slice AL nL cL, .slice A n c, .slice AR nR cR] 27)) := alloc2_ _ _ _
        have hh3 : Blk ((w2.alloc (.cells #[.int .i64 k0, .slice AK nK cK, .int .i64 pd, .bool ns, .int .i64 a, .int .i64 b, .slice AL nL cL, .slice A n c, .slice AR nR cR] 27)).alloc (.cells #[.int .i64 k0, .slice AK nK cK, .int .i64 pd, .bool ns, .int .i64 p, .int .i64 q, .slice AL nL cL, .slice A n c, .slice AR nR cR] 27)) (w2.heap.size + 1) 27 #[.int .i64 k0, .slice AK nK cK, .int .i64 pd, .bool ns, .int .i64 p, .int .i64 q, .slice AL nL cL, .slice A n c, .slice AR nR cR] := by
          have := Blk.new (w2.alloc (.cells #[.int .i64 k0, .slice AK nK cK, .int .i64 pd, .bool ns, .int .i64 a, .int .i64 b, .slice AL nL cL, .slice A n c, .slice AR nR cR] 27)) 27 #[.int .i64 k0, .slice AK nK cK, .int .i64 pd, .bool ns, .int .i64 p, .int .i64 q, .slice AL nL cL, .slice A n c, .slice AR nR cR]; rwa [World.size_alloc] at this
        have HB3 := Lib.hid (to_ HB2.out hb3)
        have HH3 := Lib.hid hh3
        clear hb3 hh3 c0 c1 c2 c3 c4 c5 c6 c7 c8
        refine (ckw (HG.out.on (to_ HB0.out HB3.out)) HN.out HO.out).mono ?_
        rintro e w4 ⟨rfl, b4⟩
        have HB4 := Lib.hid (to_ HB3.out b4)
        obtain ⟨c0, c1, c2, c3, c4, c5, c6, c7, c8⟩ := blk9 ((b4.block _ HH3.out.lt).trans HH3.out : Blk w4 (w2.heap.size + 1) 27 #[.int .i64 k0, .slice AK nK cK, .int .i64 pd, .bool ns, .int .i64 p, .int .i64 q, .slice AL nL cL, .slice A n c, .slice AR nR cR])
        clear b4
        go_wp2_with fail
        refine (ckw (HG.out.on (to_ HB0.out HB4.out)) HN.out HX9.out).mono ?_
        rintro e w5 ⟨rfl, b5⟩
        have HB5 := Lib.hid (to_ HB4.out b5)
        clear b5
        go_wp2_with fail
        refine (known18_any _).mono ?_
        rintro e w6 ⟨rfl, b6⟩
        have HB6 := Lib.hid (to_ HB5.out b6)
        clear b6
        go_wp2_with fail
        go_ret
        exact ⟨rfl, to_ HB0.out HB6.out⟩
    · have hbb : (b == 0) = false := by simpa using hb
      clear hb
      by_cases ha : a = 0
      · subst ha
        go_enter Try.func4, Try.ntmps4
        go_wp2_with fail
        clear hW1
        refine HF.out.mono ?_
        rintro e w1 ⟨rfl, b1⟩
        have HB1 := Lib.hid b1
        clear b1
        obtain ⟨c0, c1, c2, c3, c4, c5, c6, c7, c8⟩ := blk9 (HX.out w1 HB1.out)
        go_wp2_with fail
        refine (least_w (HG.out.on (to_ HB0.out HB1.out)) HN.out HAB.out).mono ?_
        rintro e w2 ⟨rfl, b2⟩
        have HB2 := Lib.hid (to_ HB1.out b2)
        clear b2
        obtain ⟨c0, c1, c2, c3, c4, c5, c6, c7, c8⟩ := blk9 (HX.out w2 HB2.out)
        have hlt2 : w.heap.size < w2.heap.size := Nat.lt_of_lt_of_le hsz1 HB2.out.size
        go_wp2_with fail
        have hb3 : Below w2.heap.size w2 ((w2.alloc (.cells #[.int .i64 k0, .slice AK nK cK, .int .i64 pd, .bool ns, .int .i64 0, .int .i64 b, .slice AL nL cL, .slice A n c, .slice AR nR cR] 27)).alloc (.cells #[.int .i64 k0, .slice AK nK cK, .int .i64 pd, .bool ns, .int .i64 p, .int .i64 q, .slice AL nL cL, .slice A n c, .slice AR nR cR] 27)) := alloc2_ _ _ _
        have hh3 : Blk ((w2.alloc (.cells #[.int .i64 k0, .slice AK nK cK, .int .i64 pd, .bool ns, .int .i64 0, .int .i64 b, .slice AL nL cL, .slice A n c, .slice AR nR cR] 27)).alloc (.cells #[.int .i64 k0, .slice AK nK cK, .int .i64 pd, .bool ns, .int .i64 p, .int .i64 q, .slice AL nL cL, .slice A n c, .slice AR nR cR] 27)) (w2.heap.size + 1) 27 #[.int .i64 k0, .slice AK nK cK, .int .i64 pd, .bool ns, .int .i64 p, .int .i64 q, .slice AL nL cL, .slice A n c, .slice AR nR cR] := by
          have := Blk.new (w2.alloc (.cells #[.int .i64 k0, .slice AK nK cK, .int .i64 pd, .bool ns, .int .i64 0, .int .i64 b, .slice AL nL cL, .slice A n c, .slice AR nR cR] 27)) 27 #[.int .i64 k0, .slice AK nK cK, .int .i64 pd, .bool ns, .int .i64 p, .int .i64 q, .slice AL nL cL, .slice A n c, .slice AR nR cR]; rwa [World.size_alloc] at this
        have HB3 := Lib.hid (to_ HB2.out hb3)
        have HH3 := Lib.hid hh3
        clear hb3 hh3 c0 c1 c2 c3 c4 c5 c6 c7 c8
        refine (ckw (HG.out.on (to_ HB0.out HB3.out)) HN.out HO.out).mono ?_
        rintro e w4 ⟨rfl, b4⟩
        have HB4 := Lib.hid (to_ HB3.out b4)
        obtain ⟨c0, c1, c2, c3, c4, c5, c6, c7, c8⟩ := blk9 ((b4.block _ HH3.out.lt).trans HH3.out : Blk w4 (w2.heap.size + 1) 27 #[.int .i64 k0, .slice AK nK cK, .int .i64 pd, .bool ns, .int .i64 p, .int .i64 q, .slice AL nL cL, .slice A n c, .slice AR nR cR])
        clear b4
        go_wp2_with fail
        refine (ckw (HG.out.on (to_ HB0.out HB4.out)) HN.out HX9.out).mono ?_
        rintro e w5 ⟨rfl, b5⟩
        have HB5 := Lib.hid (to_ HB4.out b5)
        clear b5
        go_wp2_with fail
        refine (known18_any _).mono ?_
        rintro e w6 ⟨rfl, b6⟩
        have HB6 := Lib.hid (to_ HB5.out b6)
        clear b6
        go_wp2_with fail
        go_ret
        exact ⟨rfl, to_ HB0.out HB6.out⟩
      · have haa : (a == 0) = false := by simpa using ha
        clear ha
        go_enter Try.func4, Try.ntmps4
        go_wp2_with fail
        clear hW1
        refine HF.out.mono ?_
        rintro e w1 ⟨rfl, b1⟩
        have HB1 := Lib.hid b1
        clear b1
        obtain ⟨c0, c1, c2, c3, c4, c5, c6, c7, c8⟩ := blk9 (HX.out w1 HB1.out)
        go_wp2_with fail
        refine (least_w (HG.out.on (to_ HB0.out HB1.out)) HN.out HAB.out).mono ?_
        rintro e w2 ⟨rfl, b2⟩
        have HB2 := Lib.hid (to_ HB1.out b2)
        clear b2
        obtain ⟨c0, c1, c2, c3, c4, c5, c6, c7, c8⟩ := blk9 (HX.out w2 HB2.out)
        have hlt2 : w.heap.size < w2.heap.size := Nat.lt_of_lt_of_le hsz1 HB2.out.size
        go_wp2_with fail
        have hb3 : Below w2.heap.size w2 ((w2.alloc (.cells #[.int .i64 k0, .slice AK nK cK, .int .i64 pd, .bool ns, .int .i64 a, .int .i64 b, .slice AL nL cL, .slice A n c, .slice AR nR cR] 27)).alloc (.cells #[.int .i64 k0, .slice AK nK cK, .int .i64 pd, .bool ns, .int .i64 p, .int .i64 q, .slice AL nL cL, .slice A n c, .slice AR nR cR] 27)) := alloc2_ _ _ _
        have hh3 : Blk ((w2.alloc (.cells #[.int .i64 k0, .slice AK nK cK, .int .i64 pd, .bool ns, .int .i64 a, .int .i64 b, .slice AL nL cL, .slice A n c, .slice AR nR cR] 27)).alloc (.cells #[.int .i64 k0, .slice AK nK cK, .int .i64 pd, .bool ns, .int .i64 p, .int .i64 q, .slice AL nL cL, .slice A n c, .slice AR nR cR] 27)) (w2.heap.size + 1) 27 #[.int .i64 k0, .slice AK nK cK, .int .i64 pd, .bool ns, .int .i64 p, .int .i64 q, .slice AL nL cL, .slice A n c, .slice AR nR cR] := by
          have := Blk.new (w2.alloc (.cells #[.int .i64 k0, .slice AK nK cK, .int .i64 pd, .bool ns, .int .i64 a, .int .i64 b, .slice AL nL cL, .slice A n c, .slice AR nR cR] 27)) 27 #[.int .i64 k0, .slice AK nK cK, .int .i64 pd, .bool ns, .int .i64 p, .int .i64 q, .slice AL nL cL, .slice A n c, .slice AR nR cR]; rwa [World.size_alloc] at this
        have HB3 := Lib.hid (to_ HB2.out hb3)
        have HH3 := Lib.hid hh3
        clear hb3 hh3 c0 c1 c2 c3 c4 c5 c6 c7 c8
        refine (ckw (HG.out.on (to_ HB0.out HB3.out)) HN.out HO.out).mono ?_
        rintro e w4 ⟨rfl, b4⟩
        have HB4 := Lib.hid (to_ HB3.out b4)
        obtain ⟨c0, c1, c2, c3, c4, c5, c6, c7, c8⟩ := blk9 ((b4.block _ HH3.out.lt).trans HH3.out : Blk w4 (w2.heap.size + 1) 27 #[.int .i64 k0, .slice AK nK cK, .int .i64 pd, .bool ns, .int .i64 p, .int .i64 q, .slice AL nL cL, .slice A n c, .slice AR nR cR])
        clear b4
        go_wp2_with fail
        refine (ckw (HG.out.on (to_ HB0.out HB4.out)) HN.out HX9.out).mono ?_
        rintro e w5 ⟨rfl, b5⟩
        have HB5 := Lib.hid (to_ HB4.out b5)
        clear b5
        go_wp2_with fail
        refine (known18_any _).mono ?_
        rintro e w6 ⟨rfl, b6⟩
        have HB6 := Lib.hid (to_ HB5.out b6)
        clear b6
        go_wp2_with fail
        go_ret
        exact ⟨rfl, to_ HB0.out HB6.out⟩
end Go.Proofs.Ythkbdclnnpcoiaa.By
