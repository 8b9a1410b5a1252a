/-
  WALKS of layer 13: Check.
-/
import Derived.Test.YtckpbdphilifoaaWd
namespace Go.Proofs.Ytckpbdphilifoaa.By
open Go.RowKit
open Mem Gm Rf

def CAns (w : World) (x : Int) (e : Ending) (w' : World) : Prop := e = .returned (.int .i64 x) ∧ Below w.heap.size w w'

theorem chkR_many {l : List Rn} {n : Nat} {p : Int} (h : 4096 < n) : chkR l n p = 19 := by unfold chkR; rw [if_pos h]
theorem chkR_range {l : List Rn} {n : Nat} {p : Int} (h : ¬ 4096 < n) (h2 : ¬ WIn l n p) : chkR l n p = 9 := by unfold chkR; rw [if_neg h, if_neg h2]
theorem chkR_twice {l : List Rn} {n : Nat} {p : Int} (h : ¬ 4096 < n) (h2 : WIn l n p) (h3 : Tw l n) : chkR l n p = 12 := by unfold chkR; rw [if_neg h, if_pos h2, if_pos h3]
theorem chkR_ok {l : List Rn} {n : Nat} {p : Int} (h : ¬ 4096 < n) (h2 : WIn l n p) (h3 : ¬ Tw l n) : chkR l n p = 0 := by unfold chkR; rw [if_neg h, if_pos h2, if_neg h3]

theorem ne_cases {x y : Ro} (h : x ≠ y) : (x.1 == y.1) = false ∨ (x.1 = y.1 ∧ (x.2.1 == y.2.1) = false) ∨ (x.1 = y.1 ∧ x.2.1 = y.2.1 ∧ (x.2.2.1 == y.2.2.1) = false) ∨ (x.1 = y.1 ∧ x.2.1 = y.2.1 ∧ x.2.2.1 = y.2.2.1 ∧ (x.2.2.2 == y.2.2.2) = false) := by
  obtain ⟨a, b, c, d⟩ := x
  obtain ⟨a', b', c', d'⟩ := y
  by_cases h1 : a = a'
  · by_cases h2 : b = b'
    · by_cases h3 : c = c'
      · have h4 : d ≠ d' := fun h4 => h (by rw [h1, h2, h3, h4])
        exact .inr (.inr (.inr ⟨h1, h2, h3, by simpa using h4⟩))
      · exact .inr (.inr (.inl ⟨h1, h2, by simpa using h3⟩))
    · exact .inr (.inl ⟨h1, by simpa using h2⟩)
  · exact .inl (by simpa using h1)

set_option maxRecDepth 100000 in
set_option maxHeartbeats 2000000 in
theorem check_any (w : World) (A : Option Addr) (n c : Nat) (l : List Rn) (p : Int) (h : RnL w A n c l) :
    Calls Try.prog 12 #[.slice A n c, .int .i64 p] w (CAns w (chkR l n p)) := by
  have hn := h.few
  by_cases hm : 4096 < n
  · rw [chkR_many hm]
    have hmI : (4096 : Int) < (n : Int) := by omega
    clear h hm
    go_enter Try.func12, Try.ntmps12
    go_wp2_with fail
    go_ret
    exact ⟨rfl, Below.refl _ _⟩
  · have HW := Lib.hid (within_any w A n c l p h)
    have HM := Lib.hid hm
    have hmI : ¬ (4096 : Int) < (n : Int) := by omega
    have HR := Lib.hid (fun W (hb : Below w.heap.size w W) i (hi : i < n) => (h.on hb).at_ hi)
    clear h hm
    go_enter Try.func12, Try.ntmps12
    go_wp2_with (go_at_call 36; refine HW.out.mono ?_; rintro e w1 ⟨⟨b, rfl, hb⟩, b1⟩; have HB1 := Lib.hid b1; have HBW := Lib.hid hb; clear b1 hb; cases b <;> skip)
    · have HF := Lib.hid (chkR_range HM.out (fun hh => by have := HBW.out.2 hh; cases this))
      go_wp2_with fail
      go_ret
      exact ⟨ret_int (by rw [HF.out]), HB1.out⟩
    · have HIN := Lib.hid (HBW.out.1 (by trivial))
      go_wp2_with fail
      go_loopw [15] (fun i wr => ∃ k : Nat, k ≤ n ∧ i = .int .i64 (k : Int) ∧ Below w.heap.size w wr ∧ Hid (∀ i, i < k → 0 < i → (rnAt l i).2 ≠ (rnAt l (i - 1)).2)) (fun i _ => n - (intOf i).toNat)
      case atStart => exact ⟨0, Nat.zero_le _, rfl, HB1.out, Lib.hid (fun i hi => by omega)⟩
      case round =>
        obtain ⟨k, hk, rfl, hbel, HO⟩ := hrel
        have HBE := Lib.hid hbel
        by_cases hlt : k < n
        · have hkI : (k : Int) < (n : Int) := by omega
          rcases Nat.eq_zero_or_pos k with hk0 | hk0
          · subst hk0
            have HO2 := Lib.hid (show ∀ i, i < 0 + 1 → 0 < i → (rnAt l i).2 ≠ (rnAt l (i - 1)).2 from fun i hi h2 => by omega)
            clear HO hbel
            go_wp2_with fail
            go_quiet (fail)
            go_wp2_with fail
            go_roundw
            case rel => exact ⟨1, by omega, by go_num, to_ HBE.out (drew_below _ _), HO2⟩
            case measure => simp [intOf]; omega
          · obtain ⟨ad, rfl, _, c0, c1, c2, c3, c4⟩ := HR.out wr hbel (k - 1) (by omega)
            obtain ⟨ad1, e1, _, d0, d1, d2, d3, d4⟩ := HR.out wr hbel k hlt
            injection e1 with e1
            subst e1
            have hkp : (0 : Int) < (k : Int) := by omega
            have hk1 : (1 : Int) ≤ (k : Int) := by omega
            have hknz : ¬ k = 0 := by omega
            have hkn1 : k - 1 < n := by omega
            clear hbel
            obtain ⟨x, hx⟩ : ∃ x, rnAt l k = x := ⟨_, rfl⟩
            obtain ⟨y, hy⟩ : ∃ y, rnAt l (k - 1) = y := ⟨_, rfl⟩
            rw [hx] at d0 d1 d2 d3 d4
            rw [hy] at c0 c1 c2 c3 c4
            by_cases hxy : x.2 = y.2
            · have HF := Lib.hid (chkR_twice HM.out HIN.out ⟨k, hlt, hk0, by rw [hx, hy]; exact hxy⟩)
              rw [hxy] at d1 d2 d3 d4
              clear hx hy HO hxy
              go_wp2_with fail
              go_quiet (fail)
              go_wp2_with fail
              go_ret
              exact ⟨ret_int (by rw [HF.out]), to_ HBE.out (drew_below _ _)⟩
            · have HO2 := Lib.hid (show ∀ i, i < k + 1 → 0 < i → (rnAt l i).2 ≠ (rnAt l (i - 1)).2 from fun i hi h2 => by
                by_cases e : i = k
                · subst e; rw [hx, hy]; exact hxy
                · exact HO.out i (by omega) h2)
              have hcs := ne_cases hxy
              clear hx hy HO hxy
              obtain ⟨x0, x1, x2, x3, x4⟩ := x
              obtain ⟨y0, y1, y2, y3, y4⟩ := y
              rcases hcs with hcs | ⟨e1, hcs⟩ | ⟨e1, e2, hcs⟩ | ⟨e1, e2, e3, hcs⟩
              all_goals simp only at hcs c0 c1 c2 c3 c4 d0 d1 d2 d3 d4
              · go_wp2_with fail
                go_quiet (fail)
                go_wp2_with fail
                go_roundw
                case rel => exact ⟨k + 1, by omega, by go_num, to_ HBE.out (drew_below _ _), HO2⟩
                case measure => simp [intOf]; omega
              · simp only at e1
                subst e1
                go_wp2_with fail
                go_quiet (fail)
                go_wp2_with fail
                go_roundw
                case rel => exact ⟨k + 1, by omega, by go_num, to_ HBE.out (drew_below _ _), HO2⟩
                case measure => simp [intOf]; omega
              · simp only at e1 e2
                subst e1 e2
                go_wp2_with fail
                go_quiet (fail)
                go_wp2_with fail
                go_roundw
                case rel => exact ⟨k + 1, by omega, by go_num, to_ HBE.out (drew_below _ _), HO2⟩
                case measure => simp [intOf]; omega
              · simp only at e1 e2 e3
                subst e1 e2 e3
                go_wp2_with fail
                go_quiet (fail)
                go_wp2_with fail
                go_roundw
                case rel => exact ⟨k + 1, by omega, by go_num, to_ HBE.out (drew_below _ _), HO2⟩
                case measure => simp [intOf]; omega
        · obtain rfl : k = n := by omega
          have HF := Lib.hid (chkR_ok HM.out HIN.out (fun ⟨i, hi, h2, h3⟩ => HO.out i hi h2 h3))
          clear HO hbel
          go_wp2_with fail
          go_ret
          exact ⟨ret_int (by rw [HF.out]), HBE.out⟩
end Go.Proofs.Ytckpbdphilifoaa.By
