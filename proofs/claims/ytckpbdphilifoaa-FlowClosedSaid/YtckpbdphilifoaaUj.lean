/-
  WALKS of layer 14: the document's own Check.
-/
import Derived.Test.YtckpbdphilifoaaUi
namespace Go.Proofs.Ytckpbdphilifoaa.By
open Go.RowKit
open Mem Gm Rf

theorem els_row {W : World} {A : Option Addr} {c M : Nat} {l : List Int} (hM : l.length = M) (h : SlV W W.heap.size (.slice A M c) (ints l)) : Els W A M l := fun j hj => by
  rw [← hM] at h
  rcases ints_row h with ⟨e, _⟩ | ⟨ad, e, _, hc⟩
  · rw [e] at hM; simp at hM; omega
  · exact ⟨ad, e, hc j (by omega)⟩

theorem lv_cases {n : Nat} {x : Int} (h : lv n x = true) : x < 0 ∨ (¬ x < 0 ∧ (n : Int) ≤ x) := by
  unfold lv at h
  rw [Bool.not_eq_true', Bool.and_eq_false_iff, decide_eq_false_iff_not, decide_eq_false_iff_not] at h
  omega
theorem lv_not {n : Nat} {x : Int} (h : lv n x = false) : ¬ x < 0 ∧ ¬ (n : Int) ≤ x := by
  unfold lv at h
  rw [Bool.not_eq_false', Bool.and_eq_true, decide_eq_true_eq, decide_eq_true_eq] at h
  omega

set_option maxRecDepth 100000 in
set_option maxHeartbeats 2000000 in
theorem rcheck_any (w : World) (A : Option Addr) (n c : Nat) (O T : Nat → Int) (h : Cd w w.heap.size A n c O T) :
    Calls Try.prog 30 #[.slice A n c] w (CAns w (chk n (gph n O T))) := by
  by_cases h0 : n = 0
  · have hx : chk n (gph n O T) = 3 := by unfold chk; rw [if_pos h0]
    rw [hx]
    subst h0
    clear hx h
    go_enter Try.func30, Try.ntmps30
    go_wp2_with fail
    go_ret
    exact ⟨rfl, Below.refl _ _⟩
  · by_cases h64 : 64 < n
    · have hx : chk n (gph n O T) = 6 := by unfold chk; rw [if_neg h0, if_pos h64]
      rw [hx]
      have k0 : ((n : Int) == 0) = false := by simp; omega
      have k1 : (64 : Int) < (n : Int) := by omega
      clear hx h h0 h64
      go_enter Try.func30, Try.ntmps30
      go_wp2_with fail
      go_ret
      exact ⟨rfl, Below.refl _ _⟩
    · have HN := Lib.hid (fun W (hb : Below w.heap.size w W) (i : Int) => rnext_any W A n c O T ((h.below hb).more hb.size) i)
      have HBAD := Lib.hid (fun i (hi : i < n) (hh : (rowOf (gph n O T) i).any (lv n) = true) => chk_bad h0 h64 hi hh)
      have HGOOD := Lib.hid (fun (hh : ∀ i, i < n → (rowOf (gph n O T) i).any (lv n) = false) => chk_good (g := gph n O T) h0 h64 hh)
      have k0 : ((n : Int) == 0) = false := by simp; omega
      have k1 : ¬ (64 : Int) < (n : Int) := by omega
      have HN64 := Lib.hid (show n ≤ 64 by omega)
      have HROW := Lib.hid (fun i (hi : i < n) => gph_row O T hi)
      clear h h0 h64
      generalize chk n (gph n O T) = y at HBAD HGOOD ⊢
      generalize gph n O T = g at HBAD HGOOD HROW
      go_enter Try.func30, Try.ntmps30
      go_wp2_with fail
      clear k0 k1
      go_loopw [3] (fun i wr => ∃ k : Nat, k ≤ n ∧ i = .int .i64 (k : Int) ∧ Hid (∀ i, i < k → (rowOf g i).any (lv n) = false) ∧ Below w.heap.size w wr) (fun i _ => n - (intOf i).toNat)
      case atStart => exact ⟨0, Nat.zero_le _, rfl, Lib.hid (fun i hi => by omega), Below.refl _ _⟩
      case round =>
        obtain ⟨k, hk, rfl, HO, hbel⟩ := hrel
        by_cases hlt : k < n
        · have hkI : (k : Int) < (n : Int) := by omega
          have hro := HROW.out k hlt
          have HKL := Lib.hid hlt
          have HX := Lib.hid (HN.out wr hbel (k : Int))
          rw [← hro] at HX
          have hl2 : (rowOf g k).length ≤ 2 := by rw [hro]; exact nxt_length ..
          obtain ⟨l, hl⟩ : ∃ l, rowOf g k = l := ⟨_, rfl⟩
          rw [hl] at HX hl2
          have HL := Lib.hid hl
          have HL2 := Lib.hid hl2
          have HBE := Lib.hid hbel
          clear hbel hro hl hl2
          go_wp2_with (go_at_call 28; refine HX.out.mono ?_; rintro e w2 ⟨v2, rfl, hrw, hb2⟩; obtain ⟨A2, c2, rfl, hs2⟩ := hrw.slv; obtain ⟨M, hM⟩ : ∃ M, l.length = M := ⟨_, rfl⟩; have HM := Lib.hid hM; rw [hM] at hs2 ⊢; have HE := Lib.hid (els_row hM hs2); have hM2 : M ≤ 2 := (by rw [← hM]; exact HL2.out); have HB2 := Lib.hid hb2; clear hs2 hM hb2 hrw)
          go_loop [5] (fun i => ∃ j : Nat, j ≤ M ∧ i = .int .i64 (j : Int) ∧ Hid (∀ i, i < j → lv n (el l i) = false)) (fun i => M - (intOf i).toNat)
          case atStart => exact ⟨0, Nat.zero_le _, rfl, Lib.hid (fun i hi => by omega)⟩
          case round =>
            obtain ⟨j, hj, rfl, HI⟩ := hrel
            by_cases hjt : j < M
            · obtain ⟨ad, rfl, hx⟩ := HE.out j hjt
              have hjI : (j : Int) < (M : Int) := by omega
              obtain ⟨x, hxe⟩ : ∃ x, el l j = x := ⟨_, rfl⟩
              rw [hxe] at hx
              cases hb : lv n x with
              | true =>
                have HF := Lib.hid (HBAD.out k hlt (by rw [HL.out]; exact (any_el _ _).2 ⟨j, by rw [HM.out]; exact hjt, by rw [hxe]; exact hb⟩))
                have hcs := lv_cases hb
                clear hxe hb
                rcases hcs with hcs | ⟨hcs, hcs2⟩
                · go_wp2_with fail
                  go_ret
                  exact ⟨ret_int (by rw [HF.out]), HBE.out.trans (HB2.out.mono HBE.out.size)⟩
                · go_wp2_with fail
                  go_ret
                  exact ⟨ret_int (by rw [HF.out]), HBE.out.trans (HB2.out.mono HBE.out.size)⟩
              | false =>
                have HI2 := Lib.hid (show ∀ i, i < j + 1 → lv n (el l i) = false from fun i hi => by
                  by_cases e : i = j
                  · subst e; rw [hxe]; exact hb
                  · exact HI.out i (by omega))
                obtain ⟨hcs, hcs2⟩ := lv_not hb
                clear hxe hb HI
                go_wp2_with fail
                go_round
                case rel => exact ⟨j + 1, by omega, by go_num, HI2⟩
                case measure => simp [intOf]; omega
            · obtain rfl : j = M := by omega
              have HO2 := Lib.hid (show ∀ i, i < k + 1 → (rowOf g i).any (lv n) = false from fun i hi => by
                by_cases e : i = k
                · subst e
                  rw [HL.out, Bool.eq_false_iff]
                  intro hh
                  obtain ⟨i2, hi2, hp⟩ := (any_el l _).1 hh
                  rw [HM.out] at hi2
                  rw [HI.out i2 hi2] at hp
                  cases hp
                · exact HO.out i (by omega))
              have hk64 : (k : Int) < 64 := by have := HKL.out; have := HN64.out; omega
              clear HO HI
              go_wp2_with fail
              go_roundw
              case rel => exact ⟨k + 1, by have := HKL.out; omega, by go_num, HO2, HBE.out.trans (HB2.out.mono HBE.out.size)⟩
              case measure => have := HKL.out; simp [intOf]; omega
        · obtain rfl : k = n := by omega
          have HF := Lib.hid (HGOOD.out HO.out)
          have HBE := Lib.hid hbel
          clear hbel
          go_wp2_with fail
          go_ret
          exact ⟨ret_int (by rw [HF.out]), HBE.out⟩
end Go.Proofs.Ytckpbdphilifoaa.By
