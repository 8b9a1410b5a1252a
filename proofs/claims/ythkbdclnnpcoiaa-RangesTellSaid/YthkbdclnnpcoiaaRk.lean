/-
  WALKS of layer 18: Few; the fixed calls; the law RangesTell; and RangesLeast.
-/
import Derived.Test.YthkbdclnnpcoiaaRj
namespace Go.Proofs.Ythkbdclnnpcoiaa.By
open Go.RowKit
open Mem Gm Rf
set_option linter.unusedSimpArgs false
set_option linter.unusedVariables false

def fewB (a b c d : Nat) : Bool := decide (a ≤ 100 ∧ b ≤ 100 ∧ c ≤ 100 ∧ d ≤ 100)
set_option maxRecDepth 100000 in
set_option maxHeartbeats 2000000 in
theorem few_any (w : World) (k0 pd f t : Int) (ns : Bool) (AK AL A AR : Option Addr) (nK cK nL cL n c nR cR : Nat) :
    Calls Try.prog 5 #[.agg #[.int .i64 k0, .slice AK nK cK, .int .i64 pd, .bool ns, .int .i64 f, .int .i64 t, .slice AL nL cL, .slice A n c, .slice AR nR cR]] w fun e w' => e = .returned (.bool (fewB nK nL n nR)) ∧ Below w.heap.size w w' := by
  by_cases h1 : nK ≤ 100
  · have e1 : (nK : Int) ≤ 100 := by omega
    by_cases h2 : nL ≤ 100
    · have e2 : (nL : Int) ≤ 100 := by omega
      by_cases h3 : n ≤ 100
      · have e3 : (n : Int) ≤ 100 := by omega
        by_cases h4 : nR ≤ 100
        · have e4 : (nR : Int) ≤ 100 := by omega
          have hv : fewB nK nL n nR = true := decide_eq_true ⟨h1, h2, h3, h4⟩
          rw [hv]
          clear hv h1 h2 h3 h4
          go_enter Try.func5, Try.ntmps5
          go_wp2_with fail
          go_ret
          exact ⟨rfl, alloc_ _ _⟩
        · have e4 : ¬ (nR : Int) ≤ 100 := by omega
          have hv : fewB nK nL n nR = false := decide_eq_false fun h => h4 h.2.2.2
          rw [hv]
          clear hv h1 h2 h3 h4
          go_enter Try.func5, Try.ntmps5
          go_wp2_with fail
          go_ret
          exact ⟨rfl, alloc_ _ _⟩
      · have e3 : ¬ (n : Int) ≤ 100 := by omega
        have hv : fewB nK nL n nR = false := decide_eq_false fun h => h3 h.2.2.1
        rw [hv]
        clear hv h1 h2 h3
        go_enter Try.func5, Try.ntmps5
        go_wp2_with fail
        go_ret
        exact ⟨rfl, alloc_ _ _⟩
    · have e2 : ¬ (nL : Int) ≤ 100 := by omega
      have hv : fewB nK nL n nR = false := decide_eq_false fun h => h2 h.2.1
      rw [hv]
      clear hv h1 h2
      go_enter Try.func5, Try.ntmps5
      go_wp2_with fail
      go_ret
      exact ⟨rfl, alloc_ _ _⟩
  · have e1 : ¬ (nK : Int) ≤ 100 := by omega
    have hv : fewB nK nL n nR = false := decide_eq_false fun h => h1 h.1
    rw [hv]
    clear hv h1
    go_enter Try.func5, Try.ntmps5
    go_wp2_with fail
    go_ret
    exact ⟨rfl, alloc_ _ _⟩

section
variable {w : World} {A A2 : Option Addr} {n c c2 M L : Nat} {O T : Nat → Int} {l : List Int}
def LpAns (a b : Int) (w : World) (e : Ending) (w' : World) : Prop := e = .returned (.tuple #[.int .i64 a, .int .i64 b]) ∧ Below w.heap.size w w'
theorem least_w {a b : Int} (h : CW w A n c O T) (hn : n ≤ 1000) (hl : lsP (pnT (pdO n O T) n) = (a, b)) : Calls Try.prog 7 #[.slice A n c] w (LpAns a b w) := by
  refine (least_any w A n c O T _ h hn rfl).mono fun e w' hh => ?_
  unfold LsAns at hh
  rw [hl] at hh; exact hh
theorem rleast_w {a b : Int} (h : CW w A n c O T) (hn : n ≤ 1000) (hl : lsP (pnT (pdO n O T) n) = (a, b)) : Calls Try.prog 8 #[.slice A n c] w (LpAns a b w) := by
  refine (rleast_any w A n c O T _ h hn rfl).mono fun e w' hh => ?_
  unfold LsAns at hh
  rw [hl] at hh; exact hh
theorem marks_w (h : CW w A n c O T) (hn : n ≤ 1000) (hl : mkT O n = l) (hL : l.length = L) : Calls Try.prog 10 #[.slice A n c] w (IAns L l w) := by
  subst hl; exact marks_any w A n c L O T h hn hL
theorem rmarks_w (h : CW w A n c O T) (hn : n ≤ 1000) (hl : mkT O n = l) (hL : l.length = L) : Calls Try.prog 11 #[.slice A n c] w (IAns L l w) := by
  subst hl; exact rmarks_any w A n c L O T h hn hL
theorem ckw {x0 x1 x2 x3 x6 x8 : Value} {f t x : Int} (h : CW w A n c O T) (hn : n ≤ 1000) (hx : ckV f t (pnT (pdO n O T) n) = x) :
    Calls Try.prog 12 #[.agg #[x0, x1, x2, x3, .int .i64 f, .int .i64 t, x6, .slice A n c, x8]] w (CkAns x w) := by
  subst hx; exact check_any w x0 x1 x2 x3 x6 x8 f t A n c O T _ h hn rfl
theorem rckw {x0 x1 x2 x3 x6 x8 : Value} {f t x : Int} (h : CW w A n c O T) (hn : n ≤ 1000) (hx : ckV f t (pnT (pdO n O T) n) = x) :
    Calls Try.prog 13 #[.agg #[x0, x1, x2, x3, .int .i64 f, .int .i64 t, x6, .slice A n c, x8]] w (CkAns x w) := by
  subst hx; exact rcheck_any w x0 x1 x2 x3 x6 x8 f t A n c O T _ h hn rfl
theorem inw {x0 x1 x2 x3 x6 x7 x8 : Value} {f t p : Int} {b : Bool} (hb : (decide (f ≤ p) && decide (p < t)) = b) :
    Calls Try.prog 14 #[.agg #[x0, x1, x2, x3, .int .i64 f, .int .i64 t, x6, x7, x8], .int .i64 p] w fun e w' => e = .returned (.bool b) ∧ Below w.heap.size w w' := by
  subst hb; exact in_any _ _ _ _ _ _ _ _ _ _ _
theorem rinw {x0 x1 x2 x3 x6 x7 x8 : Value} {f t p : Int} {b : Bool} (hb : (decide (f ≤ p) && decide (p < t)) = b) :
    Calls Try.prog 15 #[.agg #[x0, x1, x2, x3, .int .i64 f, .int .i64 t, x6, x7, x8], .int .i64 p] w fun e w' => e = .returned (.bool b) ∧ Below w.heap.size w w' := by
  subst hb; exact rin_any _ _ _ _ _ _ _ _ _ _ _
end

/-- The code of the fixed calls. -/
def kO (i : Nat) : Int := [21, 14, 24].getD i 0
def kT (_ : Nat) : Int := 0
theorem kcode (w : World) (t : TypeId) : CW (w.alloc (.cells #[.int .i64 21, .int .i64 0, .int .i64 0, .int .i64 0, .int .i64 0, .int .i64 14, .int .i64 0, .int .i64 0, .int .i64 0, .int .i64 0, .int .i64 24, .int .i64 0, .int .i64 0, .int .i64 0, .int .i64 0] t)) (some ⟨w.heap.size, 0, none⟩) 3 3 kO kT := by
  refine ⟨Nat.le_refl _, by unfold maxLen; omega, fun i hi => ?_⟩
  have hc := (Blk.new w t #[.int .i64 21, .int .i64 0, .int .i64 0, .int .i64 0, .int .i64 0, .int .i64 14, .int .i64 0, .int .i64 0, .int .i64 0, .int .i64 0, .int .i64 24, .int .i64 0, .int .i64 0, .int .i64 0, .int .i64 0]).cell
  have key : ∀ (i : Nat) (vs : List Value), vs.length = 5 → (∀ j, j < 5 → (#[.int .i64 21, .int .i64 0, .int .i64 0, .int .i64 0, .int .i64 0, .int .i64 14, .int .i64 0, .int .i64 0, .int .i64 0, .int .i64 0, .int .i64 24, .int .i64 0, .int .i64 0, .int .i64 0, .int .i64 0] : Array Value)[i * 5 + j]? = vs[j]?) → ∀ j u, vs[j]? = some u → (w.alloc (.cells #[.int .i64 21, .int .i64 0, .int .i64 0, .int .i64 0, .int .i64 0, .int .i64 14, .int .i64 0, .int .i64 0, .int .i64 0, .int .i64 0, .int .i64 24, .int .i64 0, .int .i64 0, .int .i64 0, .int .i64 0] t)).cell? (((⟨w.heap.size, 0, none⟩ : Addr).add (i * 5)).add j) = some u := fun i vs h5 hv j u hu => by
    have hj : j < 5 := by have := (List.getElem?_eq_some_iff.1 hu).1; omega
    rw [add_plain, add_plain, Nat.zero_add, hc, hv j hj]; exact hu
  match i, hi with
  | 0, _ => exact ⟨_, 0, 0, 0, rfl, by simp, key 0 _ rfl (fun j hj => by match j, hj with | 0, _ => rfl | 1, _ => rfl | 2, _ => rfl | 3, _ => rfl | 4, _ => rfl)⟩
  | 1, _ => exact ⟨_, 0, 0, 0, rfl, by simp, key 1 _ rfl (fun j hj => by match j, hj with | 0, _ => rfl | 1, _ => rfl | 2, _ => rfl | 3, _ => rfl | 4, _ => rfl)⟩
  | 2, _ => exact ⟨_, 0, 0, 0, rfl, by simp, key 2 _ rfl (fun j hj => by match j, hj with | 0, _ => rfl | 1, _ => rfl | 2, _ => rfl | 3, _ => rfl | 4, _ => rfl)⟩

theorem kg3 : gph 3 kO kT = [[1], [2], []] := by decide +kernel
theorem km3 : mkT kO 3 = [0] := by decide +kernel
theorem kb3 : behs 3 kO kT [0] = [1] := by decide +kernel
theorem kp3 : pnT (pdO 3 kO kT) 3 = [1, 2] := by
  have h : (List.range 3).map (reach [[1], [2], []] [1]) = [false, true, true] := by decide +kernel
  unfold pdO
  rw [kg3, km3, kb3]
  simp only [List.range_succ, List.range_zero, List.nil_append, List.map_append, List.map_cons, List.map_nil, List.cons_append, List.cons.injEq] at h
  obtain ⟨h0, h1, h2, _⟩ := h
  unfold pnT
  simp [List.range_succ, h0, h1, h2]
theorem kl3 : lsP (pnT (pdO 3 kO kT) 3) = (1, 3) := by rw [kp3]; rfl
theorem kc0 : ckV 1 3 (pnT (pdO 3 kO kT) 3) = 0 := by rw [kp3]; rfl
theorem kc9 : ckV 2 3 (pnT (pdO 3 kO kT) 3) = 9 := by rw [kp3]; rfl

set_option maxHeartbeats 4000000 in
set_option maxRecDepth 100000 in
theorem known18_any (w : World) : Calls Try.prog 6 #[] w (TAns w) := by
  obtain ⟨w0, hw0⟩ : ∃ w0, w.alloc (.cells #[.int .i64 21, .int .i64 0, .int .i64 0, .int .i64 0, .int .i64 0, .int .i64 14, .int .i64 0, .int .i64 0, .int .i64 0, .int .i64 0, .int .i64 24, .int .i64 0, .int .i64 0, .int .i64 0, .int .i64 0] 39) = w0 := ⟨_, rfl⟩
  have RG := Lib.hid (show CW w0 (some ⟨w.heap.size, 0, none⟩) 3 3 kO kT from by rw [← hw0]; exact kcode w _)
  have HA := Lib.hid (show Below w.heap.size w w0 from by rw [← hw0]; exact alloc_ _ _)
  go_enter Try.func6, Try.ntmps6
  go_wp2_with fail
  refine (least_w RG.out (by decide) kl3).mono ?_
  rintro e w1 ⟨rfl, b1⟩
  have Rg1 := Lib.hid (RG.out.on b1)
  have HB1 := Lib.hid (to_ HA.out b1)
  clear b1 RG HA
  go_wp2_with fail
  refine (marks_w Rg1.out (by decide) km3 rfl).mono ?_
  rintro e w2 ⟨A2, c2, rfl, h2, b2⟩
  have Ra2 := Lib.hid (h2)
  have Rg2 := Lib.hid (Rg1.out.on b2)
  have HB2 := Lib.hid (to_ HB1.out b2)
  clear b2 h2 Rg1 HB1
  go_wp2_with fail
  refine (ints_w rfl (Ra2.out.on (alloc_ _ _)) (IW.lit [0] 1 (Blk.new w2 3 _) rfl rfl (by decide)) (by decide)).mono ?_
  rintro e w3 ⟨rfl, b3⟩
  have Rg3 := Lib.hid ((Rg2.out.on (alloc_ _ _)).on b3)
  have HB3 := Lib.hid (to_ (to_ HB2.out (alloc_ _ _)) b3)
  clear b3 Ra2 Rg2 HB2
  go_wp2_with fail
  refine (ckw Rg3.out (by decide) kc0).mono ?_
  rintro e w4 ⟨rfl, b4⟩
  have Rg4 := Lib.hid (Rg3.out.on b4)
  have HB4 := Lib.hid (to_ HB3.out b4)
  clear b4 Rg3 HB3
  go_wp2_with fail
  refine (ckw Rg4.out (by decide) kc9).mono ?_
  rintro e w5 ⟨rfl, b5⟩
  have Rg5 := Lib.hid (Rg4.out.on b5)
  have HB5 := Lib.hid (to_ HB4.out b5)
  clear b5 Rg4 HB4
  go_wp2_with fail
  refine (inw (b := true) rfl).mono ?_
  rintro e w6 ⟨rfl, b6⟩
  have Rg6 := Lib.hid (Rg5.out.on b6)
  have HB6 := Lib.hid (to_ HB5.out b6)
  clear b6 Rg5 HB5
  go_wp2_with fail
  go_ret
  exact ⟨rfl, HB6.out⟩

set_option maxHeartbeats 4000000 in
set_option maxRecDepth 100000 in
theorem rangesTell_any (w : World) (k0 pd f t : Int) (ns : Bool) (AK AL A AR : Option Addr) (nK cK nL cL n c nR cR : Nat) (O T : Nat → Int) (p : Int) (h : CW w A n c O T) :
    Calls Try.prog 3 #[.agg #[.int .i64 k0, .slice AK nK cK, .int .i64 pd, .bool ns, .int .i64 f, .int .i64 t, .slice AL nL cL, .slice A n c, .slice AR nR cR], .int .i64 p] w (TAns w) := by
  obtain ⟨W1, hW1⟩ : ∃ W1, w.alloc (.cells #[.int .i64 k0, .slice AK nK cK, .int .i64 pd, .bool ns, .int .i64 f, .int .i64 t, .slice AL nL cL, .slice A n c, .slice AR nR cR] 27) = W1 := ⟨_, rfl⟩
  have hsz1 : w.heap.size < W1.heap.size := by rw [← hW1]; simp
  have HB0 := Lib.hid (show Below w.heap.size w W1 by rw [← hW1]; exact alloc_ _ _)
  have HX := Lib.hid (show ∀ W, Below W1.heap.size W1 W → Blk W w.heap.size 27 #[.int .i64 k0, .slice AK nK cK, .int .i64 pd, .bool ns, .int .i64 f, .int .i64 t, .slice AL nL cL, .slice A n c, .slice AR nR cR] from fun W hb => (hb.block _ hsz1).trans (by rw [← hW1]; exact Blk.new w _ _))
  have HF := Lib.hid (few_any W1 k0 pd f t ns AK AL A AR nK cK nL cL n c nR cR)
  have HG := Lib.hid h
  obtain ⟨bf, hbf⟩ : ∃ b, fewB nK nL n nR = b := ⟨_, rfl⟩
  rw [hbf] at HF
  cases bf with
  | false =>
    clear hbf h
    go_enter Try.func3, Try.ntmps3
    obtain ⟨c0, c1, c2, c3, c4, c5, c6, c7, c8⟩ := blk9 (HX.out W1 (Below.refl _ _))
    go_wp2_with fail
    refine HF.out.mono ?_
    rintro e w1 ⟨rfl, b1⟩
    have HB1 := Lib.hid (to_ HB0.out b1)
    clear b1
    go_wp2_with fail
    refine (known18_any _).mono ?_
    rintro e w9 ⟨rfl, b9⟩
    have HB99 := Lib.hid ((to_ HB1.out (b9)))
    clear b9
    go_wp2_with fail
    go_ret
    exact ⟨rfl, HB99.out⟩
  | true =>
    have hn : n ≤ 1000 := by unfold fewB at hbf; rw [decide_eq_true_eq] at hbf; omega
    have HN := Lib.hid hn
    obtain ⟨ab, hab⟩ : ∃ ab, lsP (pnT (pdO n O T) n) = ab := ⟨_, rfl⟩
    obtain ⟨a, b⟩ := ab
    have HAB := Lib.hid hab
    obtain ⟨x, hx⟩ : ∃ x, ckV f t (pnT (pdO n O T) n) = x := ⟨_, rfl⟩
    have HX9 := Lib.hid hx
    obtain ⟨ms, hms⟩ : ∃ ms, mkT O n = ms := ⟨_, rfl⟩
    obtain ⟨L, hL⟩ : ∃ L, ms.length = L := ⟨_, rfl⟩
    have HMS := Lib.hid hms
    have HL := Lib.hid hL
    have HLN := Lib.hid (show L ≤ 1000 by rw [← hL, ← hms]; have := mkT_length O n; omega)
    obtain ⟨bi, hbi⟩ : ∃ b, (decide (f ≤ p) && decide (p < t)) = b := ⟨_, rfl⟩
    have HBI := Lib.hid hbi
    clear hbf h hn hab hx hms hL hbi
    go_enter Try.func3, Try.ntmps3
    obtain ⟨c0, c1, c2, c3, c4, c5, c6, c7, c8⟩ := blk9 (HX.out W1 (Below.refl _ _))
    go_wp2_with fail
    clear hW1
    refine HF.out.mono ?_
    rintro e w1 ⟨rfl, b1⟩
    have HB1 := Lib.hid b1
    clear b1
    obtain ⟨c0, c1, c2, c3, c4, c5, c6, c7, c8⟩ := blk9 (HX.out w1 HB1.out)
    go_wp2_with fail
    refine (least_w (HG.out.on (to_ HB0.out HB1.out)) HN.out HAB.out).mono ?_
    rintro e w2 ⟨rfl, b2⟩
    have HB2 := Lib.hid (to_ HB1.out b2)
    clear b2
    obtain ⟨c0, c1, c2, c3, c4, c5, c6, c7, c8⟩ := blk9 (HX.out w2 HB2.out)
    go_wp2_with fail
    refine (rleast_w (HG.out.on (to_ HB0.out HB2.out)) HN.out HAB.out).mono ?_
    rintro e w3 ⟨rfl, b3⟩
    have HB3 := Lib.hid (to_ HB2.out b3)
    clear b3
    have hHeld := blk9 (HX.out w3.drew (to_ HB3.out (drew_below w3)))
    clear c0 c1 c2 c3 c4 c5 c6 c7 c8
    go_wp2_with fail
    have HB3' := Lib.hid (to_ HB3.out (drew_below w3))
    refine wp_region_noPanic ?_
    refine wp_region_held_drew (S := fun W' => W'.cell? ⟨w.heap.size, 0, none⟩ = some (.int .i64 k0) ∧ W'.cell? ⟨w.heap.size, 1, none⟩ = some (.slice AK nK cK) ∧ W'.cell? ⟨w.heap.size, 2, none⟩ = some (.int .i64 pd) ∧ W'.cell? ⟨w.heap.size, 3, none⟩ = some (.bool ns) ∧ W'.cell? ⟨w.heap.size, 4, none⟩ = some (.int .i64 f) ∧ W'.cell? ⟨w.heap.size, 5, none⟩ = some (.int .i64 t) ∧ W'.cell? ⟨w.heap.size, 6, none⟩ = some (.slice AL nL cL) ∧ W'.cell? ⟨w.heap.size, 7, none⟩ = some (.slice A n c) ∧ W'.cell? ⟨w.heap.size, 8, none⟩ = some (.slice AR nR cR)) (by kernel_rfl) (hHeld) (fun hHeld => ?_)
    refine wpAnyH_take (i := 0) rfl (by kernel_rfl) (by kernel_rfl) (by kernel_rfl) (fun _ _ _ h => h) (Or.inl ⟨by rfl, by intro W hSW; (try dsimp only at hSW); go_simp; try (with_reducible rfl)⟩) hHeld ?_
    try simp only [Act.put, List.getElem_toArray, List.getElem_cons_zero, List.getElem_cons_succ, List.setIfInBounds_toArray, List.set_cons_zero, List.set_cons_succ]
    refine wpAnyH_take (i := 1) rfl (by kernel_rfl) (by kernel_rfl) (by kernel_rfl) (fun _ _ _ h => h) (Or.inl ⟨by rfl, by intro W hSW; (try dsimp only at hSW); go_simp; try (with_reducible rfl)⟩) hHeld ?_
    try simp only [Act.put, List.getElem_toArray, List.getElem_cons_zero, List.getElem_cons_succ, List.setIfInBounds_toArray, List.set_cons_zero, List.set_cons_succ]
    refine wpAnyH_take (i := 2) rfl (by kernel_rfl) (by kernel_rfl) (by kernel_rfl) (fun _ _ _ h => h) (Or.inl ⟨by rfl, by intro W hSW; (try dsimp only at hSW); go_simp; try (with_reducible rfl)⟩) hHeld ?_
    try simp only [Act.put, List.getElem_toArray, List.getElem_cons_zero, List.getElem_cons_succ, List.setIfInBounds_toArray, List.set_cons_zero, List.set_cons_succ]
    refine wpAnyH_take (i := 3) rfl (by kernel_rfl) (by kernel_rfl) (by kernel_rfl) (fun _ _ _ h => h) (Or.inl ⟨by rfl, by intro W hSW; (try dsimp only at hSW); go_simp; try (with_reducible rfl)⟩) hHeld ?_
    try simp only [Act.put, List.getElem_toArray, List.getElem_cons_zero, List.getElem_cons_succ, List.setIfInBounds_toArray, List.set_cons_zero, List.set_cons_succ]
    refine wpAnyH_take (i := 4) rfl (by kernel_rfl) (by kernel_rfl) (by kernel_rfl) (fun _ _ _ h => h) (Or.inl ⟨by rfl, by intro W hSW; (try dsimp only at hSW); go_simp; try (with_reducible rfl)⟩) hHeld ?_
    try simp only [Act.put, List.getElem_toArray, List.getElem_cons_zero, List.getElem_cons_succ, List.setIfInBounds_toArray, List.set_cons_zero, List.set_cons_succ]
    refine wpAnyH_take (i := 5) rfl (by kernel_rfl) (by kernel_rfl) (by kernel_rfl) (fun _ _ _ h => h) (Or.inl ⟨by rfl, by intro W hSW; (try dsimp only at hSW); go_simp; try (with_reducible rfl)⟩) hHeld ?_
    try simp only [Act.put, List.getElem_toArray, List.getElem_cons_zero, List.getElem_cons_succ, List.setIfInBounds_toArray, List.set_cons_zero, List.set_cons_succ]
    refine wpAnyH_take (i := 6) rfl (by kernel_rfl) (by kernel_rfl) (by kernel_rfl) (fun _ _ _ h => h) (Or.inl ⟨by rfl, by intro W hSW; (try dsimp only at hSW); go_simp; try (with_reducible rfl)⟩) hHeld ?_
    try simp only [Act.put, List.getElem_toArray, List.getElem_cons_zero, List.getElem_cons_succ, List.setIfInBounds_toArray, List.set_cons_zero, List.set_cons_succ]
    refine wpAnyH_take (i := 7) rfl (by kernel_rfl) (by kernel_rfl) (by kernel_rfl) (fun _ _ _ h => h) (Or.inl ⟨by rfl, by intro W hSW; (try dsimp only at hSW); go_simp; try (with_reducible rfl)⟩) hHeld ?_
    try simp only [Act.put, List.getElem_toArray, List.getElem_cons_zero, List.getElem_cons_succ, List.setIfInBounds_toArray, List.set_cons_zero, List.set_cons_succ]
    refine wpAnyH_take (i := 8) rfl (by kernel_rfl) (by kernel_rfl) (by kernel_rfl) (fun _ _ _ h => h) (Or.inl ⟨by rfl, by intro W hSW; (try dsimp only at hSW); go_simp; try (with_reducible rfl)⟩) hHeld ?_
    try simp only [Act.put, List.getElem_toArray, List.getElem_cons_zero, List.getElem_cons_succ, List.setIfInBounds_toArray, List.set_cons_zero, List.set_cons_succ]
    refine wpAnyH_take (i := 9) rfl (by kernel_rfl) (by kernel_rfl) (by kernel_rfl) (fun _ _ _ h => h) (Or.inl ⟨by rfl, by intro W hSW; (try dsimp only at hSW); go_simp; try (with_reducible rfl)⟩) hHeld ?_
    try simp only [Act.put, List.getElem_toArray, List.getElem_cons_zero, List.getElem_cons_succ, List.setIfInBounds_toArray, List.set_cons_zero, List.set_cons_succ]
    refine wpAnyH_take (i := 10) rfl (by kernel_rfl) (by kernel_rfl) (by kernel_rfl) (fun _ _ _ h => h) (Or.inl ⟨by rfl, by intro W hSW; (try dsimp only at hSW); go_simp; try (with_reducible rfl)⟩) hHeld ?_
    try simp only [Act.put, List.getElem_toArray, List.getElem_cons_zero, List.getElem_cons_succ, List.setIfInBounds_toArray, List.set_cons_zero, List.set_cons_succ]
    refine wpAnyH_take (i := 12) rfl (by kernel_rfl) (by kernel_rfl) (by kernel_rfl) (fun _ _ _ h => h) (Or.inl ⟨by rfl, by intro W hSW; (try dsimp only at hSW); go_simp; try (with_reducible rfl)⟩) hHeld ?_
    try simp only [Act.put, List.getElem_toArray, List.getElem_cons_zero, List.getElem_cons_succ, List.setIfInBounds_toArray, List.set_cons_zero, List.set_cons_succ]
    refine wpAnyH_take (i := 13) rfl (by kernel_rfl) (by kernel_rfl) (by kernel_rfl) (fun _ _ _ h => h) (Or.inl ⟨by rfl, by intro W hSW; (try dsimp only at hSW); go_simp; try (with_reducible rfl)⟩) hHeld ?_
    try simp only [Act.put, List.getElem_toArray, List.getElem_cons_zero, List.getElem_cons_succ, List.setIfInBounds_toArray, List.set_cons_zero, List.set_cons_succ]
    refine wpAnyH_ready (rs := [11]) (by kernel_rfl) (by simp) ?_
    refine AllReadyH.cons rfl (fun K hK => ?_) AllReadyH.nil
    go_simp
    refine (marks_w (HG.out.on (to_ HB0.out HB3'.out)) HN.out HMS.out HL.out).mono ?_
    rintro e w4 ⟨A4, c4, rfl, h4, b4⟩
    have HI4 := Lib.hid h4
    have HB4 := Lib.hid (to_ HB3'.out b4)
    clear b4 h4
    try go_wp2_with fail
    refine hK.out _ _ (blk9 (HX.out _ HB4.out)) ?_
    clear hK K hHeld
    intro hHeld
    try simp only [Act.put, List.getElem_toArray, List.getElem_cons_zero, List.getElem_cons_succ, List.setIfInBounds_toArray, List.set_cons_zero, List.set_cons_succ]
    refine wpAnyH_ready (rs := [14]) (by kernel_rfl) (by simp) ?_
    refine AllReadyH.cons rfl (fun K hK => ?_) AllReadyH.nil
    go_simp
    refine (rmarks_w (HG.out.on (to_ HB0.out HB4.out)) HN.out HMS.out HL.out).mono ?_
    rintro e w5 ⟨A5, c5, rfl, h5, b5⟩
    have HI5 := Lib.hid h5
    have HI45 := Lib.hid (HI4.out.on b5)
    have HB5 := Lib.hid (to_ HB4.out b5)
    clear b5 h5
    try go_wp2_with fail
    refine hK.out _ _ (blk9 (HX.out _ HB5.out)) ?_
    clear hK K hHeld
    intro hHeld
    try simp only [Act.put, List.getElem_toArray, List.getElem_cons_zero, List.getElem_cons_succ, List.setIfInBounds_toArray, List.set_cons_zero, List.set_cons_succ]
    refine wpAnyH_ready (rs := [15]) (by kernel_rfl) (by simp) ?_
    refine AllReadyH.cons rfl (fun K hK => ?_) AllReadyH.nil
    go_simp
    refine (ints_w HL.out HI45.out HI5.out HLN.out).mono ?_
    rintro e w6 ⟨rfl, b6⟩
    have HB6 := Lib.hid (to_ HB5.out b6)
    clear b6
    try go_wp2_with fail
    refine hK.out _ _ (blk9 (HX.out _ HB6.out)) ?_
    clear hK K hHeld
    intro hHeld
    try simp only [Act.put, List.getElem_toArray, List.getElem_cons_zero, List.getElem_cons_succ, List.setIfInBounds_toArray, List.set_cons_zero, List.set_cons_succ]
    refine wpAnyH_take (i := 16) rfl (by kernel_rfl) (by kernel_rfl) (by kernel_rfl) (fun _ _ _ h => h) (Or.inl ⟨by rfl, by intro W hSW; (try dsimp only at hSW); go_simp; try (with_reducible rfl)⟩) hHeld ?_
    try simp only [Act.put, List.getElem_toArray, List.getElem_cons_zero, List.getElem_cons_succ, List.setIfInBounds_toArray, List.set_cons_zero, List.set_cons_succ]
    refine wpAnyH_take (i := 17) rfl (by kernel_rfl) (by kernel_rfl) (by kernel_rfl) (fun _ _ _ h => h) (Or.inl ⟨by rfl, by intro W hSW; (try dsimp only at hSW); go_simp; try (with_reducible rfl)⟩) hHeld ?_
    try simp only [Act.put, List.getElem_toArray, List.getElem_cons_zero, List.getElem_cons_succ, List.setIfInBounds_toArray, List.set_cons_zero, List.set_cons_succ]
    refine wpAnyH_take (i := 18) rfl (by kernel_rfl) (by kernel_rfl) (by kernel_rfl) (fun _ _ _ h => h) (Or.inl ⟨by rfl, by intro W hSW; (try dsimp only at hSW); go_simp; try (with_reducible rfl)⟩) hHeld ?_
    try simp only [Act.put, List.getElem_toArray, List.getElem_cons_zero, List.getElem_cons_succ, List.setIfInBounds_toArray, List.set_cons_zero, List.set_cons_succ]
    refine wpAnyH_take (i := 20) rfl (by kernel_rfl) (by kernel_rfl) (by kernel_rfl) (fun _ _ _ h => h) (Or.inl ⟨by rfl, by intro W hSW; (try dsimp only at hSW); go_simp; try (with_reducible rfl)⟩) hHeld ?_
    try simp only [Act.put, List.getElem_toArray, List.getElem_cons_zero, List.getElem_cons_succ, List.setIfInBounds_toArray, List.set_cons_zero, List.set_cons_succ]
    refine wpAnyH_ready (rs := [19]) (by kernel_rfl) (by simp) ?_
    refine AllReadyH.cons rfl (fun K hK => ?_) AllReadyH.nil
    go_simp
    refine (ckw (HG.out.on (to_ HB0.out HB6.out)) HN.out HX9.out).mono ?_
    rintro e w7 ⟨rfl, b7⟩
    have HB7 := Lib.hid (to_ HB6.out b7)
    clear b7
    try go_wp2_with fail
    refine hK.out _ _ (blk9 (HX.out _ HB7.out)) ?_
    clear hK K hHeld
    intro hHeld
    try simp only [Act.put, List.getElem_toArray, List.getElem_cons_zero, List.getElem_cons_succ, List.setIfInBounds_toArray, List.set_cons_zero, List.set_cons_succ]
    refine wpAnyH_ready (rs := [21]) (by kernel_rfl) (by simp) ?_
    refine AllReadyH.cons rfl (fun K hK => ?_) AllReadyH.nil
    go_simp
    refine (rckw (HG.out.on (to_ HB0.out HB7.out)) HN.out HX9.out).mono ?_
    rintro e w8 ⟨rfl, b8⟩
    have HB8 := Lib.hid (to_ HB7.out b8)
    clear b8
    try go_wp2_with fail
    refine hK.out _ _ (blk9 (HX.out _ HB8.out)) ?_
    clear hK K hHeld
    intro hHeld
    try simp only [Act.put, List.getElem_toArray, List.getElem_cons_zero, List.getElem_cons_succ, List.setIfInBounds_toArray, List.set_cons_zero, List.set_cons_succ]
    refine wpAnyH_take (i := 22) rfl (by kernel_rfl) (by kernel_rfl) (by kernel_rfl) (fun _ _ _ h => h) (Or.inl ⟨by rfl, by intro W hSW; (try dsimp only at hSW); go_simp; try (with_reducible rfl)⟩) hHeld ?_
    try simp only [Act.put, List.getElem_toArray, List.getElem_cons_zero, List.getElem_cons_succ, List.setIfInBounds_toArray, List.set_cons_zero, List.set_cons_succ]
    refine wpAnyH_take (i := 23) rfl (by kernel_rfl) (by kernel_rfl) (by kernel_rfl) (fun _ _ _ h => h) (Or.inl ⟨by rfl, by intro W hSW; (try dsimp only at hSW); go_simp; try (with_reducible rfl)⟩) hHeld ?_
    try simp only [Act.put, List.getElem_toArray, List.getElem_cons_zero, List.getElem_cons_succ, List.setIfInBounds_toArray, List.set_cons_zero, List.set_cons_succ]
    refine wpAnyH_take (i := 24) rfl (by kernel_rfl) (by kernel_rfl) (by kernel_rfl) (fun _ _ _ h => h) (Or.inl ⟨by rfl, by intro W hSW; (try dsimp only at hSW); go_simp; try (with_reducible rfl)⟩) hHeld ?_
    try simp only [Act.put, List.getElem_toArray, List.getElem_cons_zero, List.getElem_cons_succ, List.setIfInBounds_toArray, List.set_cons_zero, List.set_cons_succ]
    refine wpAnyH_take (i := 25) rfl (by kernel_rfl) (by kernel_rfl) (by kernel_rfl) (fun _ _ _ h => h) (Or.inl ⟨by rfl, by intro W hSW; (try dsimp only at hSW); go_simp; try (with_reducible rfl)⟩) hHeld ?_
    try simp only [Act.put, List.getElem_toArray, List.getElem_cons_zero, List.getElem_cons_succ, List.setIfInBounds_toArray, List.set_cons_zero, List.set_cons_succ]
    refine wpAnyH_take (i := 26) rfl (by kernel_rfl) (by kernel_rfl) (by kernel_rfl) (fun _ _ _ h => h) (Or.inl ⟨by rfl, by intro W hSW; (try dsimp only at hSW); go_simp; try (with_reducible rfl)⟩) hHeld ?_
    try simp only [Act.put, List.getElem_toArray, List.getElem_cons_zero, List.getElem_cons_succ, List.setIfInBounds_toArray, List.set_cons_zero, List.set_cons_succ]
    refine wpAnyH_take (i := 28) rfl (by kernel_rfl) (by kernel_rfl) (by kernel_rfl) (fun _ _ _ h => h) (Or.inl ⟨by rfl, by intro W hSW; (try dsimp only at hSW); go_simp; try (with_reducible rfl)⟩) hHeld ?_
    try simp only [Act.put, List.getElem_toArray, List.getElem_cons_zero, List.getElem_cons_succ, List.setIfInBounds_toArray, List.set_cons_zero, List.set_cons_succ]
    refine wpAnyH_take (i := 29) rfl (by kernel_rfl) (by kernel_rfl) (by kernel_rfl) (fun _ _ _ h => h) (Or.inl ⟨by rfl, by intro W hSW; (try dsimp only at hSW); go_simp; try (with_reducible rfl)⟩) hHeld ?_
    try simp only [Act.put, List.getElem_toArray, List.getElem_cons_zero, List.getElem_cons_succ, List.setIfInBounds_toArray, List.set_cons_zero, List.set_cons_succ]
    refine wpAnyH_ready (rs := [27]) (by kernel_rfl) (by simp) ?_
    refine AllReadyH.cons rfl (fun K hK => ?_) AllReadyH.nil
    go_simp
    refine (inw HBI.out).mono ?_
    rintro e w9 ⟨rfl, b9⟩
    have HB9 := Lib.hid (to_ HB8.out b9)
    clear b9
    try go_wp2_with fail
    refine hK.out _ _ (blk9 (HX.out _ HB9.out)) ?_
    clear hK K hHeld
    intro hHeld
    try simp only [Act.put, List.getElem_toArray, List.getElem_cons_zero, List.getElem_cons_succ, List.setIfInBounds_toArray, List.set_cons_zero, List.set_cons_succ]
    refine wpAnyH_ready (rs := [30]) (by kernel_rfl) (by simp) ?_
    refine AllReadyH.cons rfl (fun K hK => ?_) AllReadyH.nil
    go_simp
    refine (rinw HBI.out).mono ?_
    rintro e w10 ⟨rfl, b10⟩
    have HB10 := Lib.hid (to_ HB9.out b10)
    clear b10
    try go_wp2_with fail
    refine hK.out _ _ (blk9 (HX.out _ HB10.out)) ?_
    clear hK K hHeld
    intro hHeld
    try simp only [Act.put, List.getElem_toArray, List.getElem_cons_zero, List.getElem_cons_succ, List.setIfInBounds_toArray, List.set_cons_zero, List.set_cons_succ]
    refine wpAnyH_take (i := 31) rfl (by kernel_rfl) (by kernel_rfl) (by kernel_rfl) (fun _ _ _ h => h) (Or.inl ⟨by rfl, by intro W hSW; (try dsimp only at hSW); go_simp; try (with_reducible rfl)⟩) hHeld ?_
    try simp only [Act.put, List.getElem_toArray, List.getElem_cons_zero, List.getElem_cons_succ, List.setIfInBounds_toArray, List.set_cons_zero, List.set_cons_succ]
    refine wpAnyH_take (i := 32) rfl (by kernel_rfl) (by kernel_rfl) (by kernel_rfl) (fun _ _ _ h => h) (Or.inl ⟨by rfl, by intro W hSW; (try dsimp only at hSW); go_simp; try (with_reducible rfl)⟩) hHeld ?_
    try simp only [Act.put, List.getElem_toArray, List.getElem_cons_zero, List.getElem_cons_succ, List.setIfInBounds_toArray, List.set_cons_zero, List.set_cons_succ]
    refine wpAnyH_take (i := 33) rfl (by kernel_rfl) (by kernel_rfl) (by kernel_rfl) (fun _ _ _ h => h) (Or.inl ⟨by rfl, by intro W hSW; (try dsimp only at hSW); go_simp; try (with_reducible rfl)⟩) hHeld ?_
    try simp only [Act.put, List.getElem_toArray, List.getElem_cons_zero, List.getElem_cons_succ, List.setIfInBounds_toArray, List.set_cons_zero, List.set_cons_succ]
    refine wpAnyH_ready (rs := [34]) (by kernel_rfl) (by simp) ?_
    refine AllReadyH.cons rfl (fun K hK => ?_) AllReadyH.nil
    go_simp
    refine (known18_any _).mono ?_
    rintro e w11 ⟨rfl, b11⟩
    have HB11 := Lib.hid (to_ HB10.out b11)
    clear b11
    try go_wp2_with fail
    refine hK.out _ _ (blk9 (HX.out _ HB11.out)) ?_
    clear hK K hHeld
    intro hHeld
    try simp only [Act.put, List.getElem_toArray, List.getElem_cons_zero, List.getElem_cons_succ, List.setIfInBounds_toArray, List.set_cons_zero, List.set_cons_succ]
    refine wpAnyH_take (i := 35) rfl (by kernel_rfl) (by kernel_rfl) (by kernel_rfl) (fun _ _ _ h => h) (Or.inl ⟨by rfl, by intro W hSW; (try dsimp only at hSW); go_simp; try (with_reducible rfl)⟩) hHeld ?_
    try simp only [Act.put, List.getElem_toArray, List.getElem_cons_zero, List.getElem_cons_succ, List.setIfInBounds_toArray, List.set_cons_zero, List.set_cons_succ]
    refine wpAnyH_take (i := 36) rfl (by kernel_rfl) (by kernel_rfl) (by kernel_rfl) (fun _ _ _ h => h) (Or.inl ⟨by rfl, by intro W hSW; (try dsimp only at hSW); go_simp; try (with_reducible rfl)⟩) hHeld ?_
    try simp only [Act.put, List.getElem_toArray, List.getElem_cons_zero, List.getElem_cons_succ, List.setIfInBounds_toArray, List.set_cons_zero, List.set_cons_succ]
    refine wpAnyH_done (by kernel_rfl) ?_ _
    refine NoPanic.normal ?_
    go_wp2_with fail
    go_ret
    exact ⟨rfl, to_ HB0.out HB11.out⟩
end Go.Proofs.Ythkbdclnnpcoiaa.By
