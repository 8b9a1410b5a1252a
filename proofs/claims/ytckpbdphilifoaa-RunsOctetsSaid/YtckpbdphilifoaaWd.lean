/-
  WALKS of layer 13: Check.
-/
import Derived.Test.YtckpbdphilifoaaWc
namespace Go.Proofs.Ytckpbdphilifoaa.By
open Go.RowKit
open Mem Gm Rf

def fr (l : List Rn) (i : Nat) : Int := (rnAt l i).1
/-- The runs begin at the first place, go on rising, and end within the places. -/
def WIn (l : List Rn) (n : Nat) (places : Int) : Prop := (n = 0 ∧ places ≤ 0) ∨ (0 < n ∧ fr l 0 = 0 ∧ (∀ i, i < n → 0 < i → fr l (i - 1) < fr l i) ∧ fr l (n - 1) < places)
/-- Two rows side by side are alike. -/
def Tw (l : List Rn) (n : Nat) : Prop := ∃ i, i < n ∧ 0 < i ∧ (rnAt l i).2 = (rnAt l (i - 1)).2
open Classical in
noncomputable def chkR (l : List Rn) (n : Nat) (places : Int) : Int := if 4096 < n then 19 else if WIn l n places then (if Tw l n then 12 else 0) else 9

theorem drew_below (w : World) (q : Nat) : Below w.heap.size w (w.drewN q) := below_drewN (Below.refl _ _) q

set_option maxRecDepth 100000 in
set_option maxHeartbeats 2000000 in
theorem within_any (w : World) (A : Option Addr) (n c : Nat) (l : List Rn) (p : Int) (h : RnL w A n c l) :
    Calls Try.prog 36 #[.slice A n c, .int .i64 p] w fun e w' => (∃ b, e = .returned (.bool b) ∧ (b = true ↔ WIn l n p)) ∧ Below w.heap.size w w' := by
  have hn := h.few
  rcases Nat.eq_zero_or_pos n with h0 | h0
  · obtain ⟨b, hb⟩ : ∃ b, decide (p ≤ 0) = b := ⟨_, rfl⟩
    have HV := Lib.hid (show b = true ↔ WIn l n p by
      rw [← hb, decide_eq_true_eq]
      unfold WIn
      exact ⟨fun h => .inl ⟨h0, h⟩, fun h => by omega⟩)
    subst h0
    clear h
    go_enter Try.func36, Try.ntmps36
    go_wp2_with fail
    go_ret
    exact ⟨⟨b, rfl, HV.out⟩, Below.refl _ _⟩
  · have HR := Lib.hid (fun i (hi : i < n) => h.at_ hi)
    have H0 := Lib.hid h0
    have hz : ((n : Int) == 0) = false := by simp; omega
    obtain ⟨ad, rfl, _, c0, _⟩ := h.at_ h0
    have hz0 : ad.add (0 * 5) = ad := by simp [Addr.add]
    have hI0 : (0 : Int) < (n : Int) := by omega
    rw [hz0] at c0
    obtain ⟨x, hx⟩ : ∃ x, (rnAt l 0).1 = x := ⟨_, rfl⟩
    rw [hx] at c0
    by_cases hx0 : x = 0
    · have HX := Lib.hid (show fr l 0 = 0 from hx.trans hx0)
      subst hx0
      clear hx h h0
      go_enter Try.func36, Try.ntmps36
      go_wp2_with fail
      go_loopw [18] (fun i wr => ∃ k q : Nat, k ≤ n ∧ i = .int .i64 (k : Int) ∧ wr = w.drewN q ∧ Hid (∀ i, i < k → 0 < i → fr l (i - 1) < fr l i)) (fun i _ => n - (intOf i).toNat)
      case atStart => exact ⟨0, 0, Nat.zero_le _, rfl, rfl, Lib.hid (fun i hi => by omega)⟩
      case round =>
        obtain ⟨k, q, hk, rfl, rfl, HO⟩ := hrel
        by_cases hlt : k < n
        · have hkI : (k : Int) < (n : Int) := by omega
          rcases Nat.eq_zero_or_pos k with hk0 | hk0
          · subst hk0
            have HO2 := Lib.hid (show ∀ i, i < 0 + 1 → 0 < i → fr l (i - 1) < fr l i from fun i hi h2 => by omega)
            clear HO
            go_wp2_with fail
            go_quiet (fail)
            go_wp2_with fail
            go_roundw
            case rel => exact ⟨1, q + nq, by omega, by go_num, by first | rfl | exact World.drewN_drewN .., HO2⟩
            case measure => simp [intOf]; omega
          · obtain ⟨ad1, e1, _, d0, _⟩ := HR.out (k - 1) (by omega)
            injection e1 with e1
            subst e1
            obtain ⟨ad1, e1, _, d1, _⟩ := HR.out k hlt
            injection e1 with e1
            subst e1
            have hkp : (0 : Int) < (k : Int) := by omega
            have hk1 : (1 : Int) ≤ (k : Int) := by omega
            have hknz : ¬ k = 0 := by omega
            have hkn1 : k - 1 < n := by omega
            by_cases hy : (rnAt l k).1 ≤ (rnAt l (k - 1)).1
            · have HF := Lib.hid (show ¬ WIn l n p from fun hh => by
                rcases hh with hh | hh
                · have := hh.1; omega
                · have := hh.2.2.1 k hlt hk0
                  unfold fr at this; omega)
              generalize (rnAt l (k - 1)).1 = y at d0 hy
              generalize (rnAt l k).1 = z at d1 hy
              clear HO
              go_wp2_with fail
              go_quiet (fail)
              go_wp2_with fail
              go_ret
              exact ⟨⟨false, rfl, ⟨fun h => (by cases h), fun h => absurd h HF.out⟩⟩, to_ (drew_below _ _) (drew_below _ _)⟩
            · have HO2 := Lib.hid (show ∀ i, i < k + 1 → 0 < i → fr l (i - 1) < fr l i from fun i hi h2 => by
                by_cases e : i = k
                · subst e; unfold fr; omega
                · exact HO.out i (by omega) h2)
              generalize (rnAt l (k - 1)).1 = y at d0 hy
              generalize (rnAt l k).1 = z at d1 hy
              clear HO
              go_wp2_with fail
              go_quiet (fail)
              go_wp2_with fail
              go_roundw
              case rel => exact ⟨k + 1, q + nq, by omega, by go_num, by first | rfl | exact World.drewN_drewN .., HO2⟩
              case measure => simp [intOf]; omega
        · obtain rfl : k = n := by omega
          have h0 := H0.out
          obtain ⟨ad1, e1, _, d0, _⟩ := HR.out (k - 1) (by omega)
          injection e1 with e1
          subst e1
          have hk1 : (1 : Int) ≤ (k : Int) := by omega
          have hkn1 : k - 1 < k := by omega
          obtain ⟨y, hy⟩ : ∃ y, (rnAt l (k - 1)).1 = y := ⟨_, rfl⟩
          rw [hy] at d0
          obtain ⟨b, hb⟩ : ∃ b, decide (y < p) = b := ⟨_, rfl⟩
          have HF := Lib.hid (show b = true ↔ WIn l k p by
            rw [← hb, decide_eq_true_eq]
            unfold WIn
            constructor
            · intro h; exact .inr ⟨h0, HX.out, HO.out, by unfold fr; rw [hy]; exact h⟩
            · rintro (⟨h, _⟩ | ⟨_, _, _, h⟩)
              · omega
              · unfold fr at h; rw [hy] at h; exact h)
          clear HO hy
          go_wp2_with fail
          go_ret
          exact ⟨⟨b, rfl, HF.out⟩, drew_below _ _⟩
    · have HF := Lib.hid (show ¬ WIn l n p from fun hh => by
        rcases hh with hh | hh
        · have := hh.1; omega
        · exact hx0 (hx.symm.trans hh.2.1))
      have hx1 : (x != 0) = true := by simpa using hx0
      clear hx h h0 hx0
      go_enter Try.func36, Try.ntmps36
      go_wp2_with fail
      go_ret
      exact ⟨⟨false, rfl, ⟨fun h => (by cases h), fun h => absurd h HF.out⟩⟩, Below.refl _ _⟩
end Go.Proofs.Ytckpbdphilifoaa.By
