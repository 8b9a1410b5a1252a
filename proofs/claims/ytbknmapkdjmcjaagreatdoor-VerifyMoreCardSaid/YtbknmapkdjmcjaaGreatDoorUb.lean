/-
  WALKS of layer 7, the document's own Name and Ends; no bounds.
-/
import Derived.Test.YtbknmapkdjmcjaaGreatDoorVb
import Derived.WalkSpells
import Derived.WalkLawsBesides
import Derived.Lib.LaidTab
import Derived.Laws.IdiomStrings
namespace Go.Proofs.YtbknmapkdjmcjaaGreatDoor.By
open Go.RowKit

theorem rname_free (n : Int) (w : World) :
    Calls Tryz.prog 173 #[.int .i64 n] w fun e w' => e = .returned (.string (nmV n)) ∧ Below w.heap.size w w' := by
  have HN := Lib.hid rnames_any
  have hb : (decide (n < 1) = true ∧ nmV n = ⟨#[]⟩) ∨ (decide (n < 1) = false ∧ decide (28 < n) = true ∧ nmV n = ⟨#[]⟩) ∨ (0 ≤ n - 1 ∧ n - 1 < 28 ∧ nmV n = nmB n.toNat) := by
    unfold nmV
    by_cases h1 : n < 1
    · left; exact ⟨by simpa using h1, by rw [if_neg (by omega)]⟩
    · by_cases h2 : 28 < n
      · right; left; exact ⟨by simpa using h1, by simpa using h2, by rw [if_neg (by omega)]⟩
      · right; right; exact ⟨by omega, by omega, by rw [if_pos (by omega)]⟩
  rcases hb with ⟨h1, h2⟩ | ⟨h1, h3, h2⟩ | ⟨h1, h3, h2⟩
  all_goals rw [h2]
  all_goals clear h2
  · go_enter Tryz.func173, Tryz.ntmps173
    go_wp2_with (go_at_call 234; refine (HN.out _).mono ?_; rintro e w' ⟨rfl, rfl⟩)
    all_goals go_ret
    all_goals exact ⟨rfl, (Below.refl _ _).alloc (Nat.le_refl _) _⟩
  · go_enter Tryz.func173, Tryz.ntmps173
    go_wp2_with (go_at_call 234; refine (HN.out _).mono ?_; rintro e w' ⟨rfl, rfl⟩)
    all_goals go_ret
    all_goals exact ⟨rfl, (Below.refl _ _).alloc (Nat.le_refl _) _⟩
  · have hd : decide (n < 1) = false := by simp; omega
    have hd2 : decide (28 < n) = false := by simp; omega
    have hc : (w.alloc (.cells nmA 9)).cell? ⟨w.heap.size, n.toNat - 1, none⟩ = some (.string (nmB n.toNat)) := by
      rw [cell_of_row _ w.heap.size _ nmA 9 (0, 0) (heap_alloc_new w _), nmA_at _ (by omega)]
      congr 3
      omega
    go_enter Tryz.func173, Tryz.ntmps173
    go_wp2_with (go_at_call 234; refine (HN.out _).mono ?_; rintro e w' ⟨rfl, rfl⟩)
    all_goals go_ret
    all_goals exact ⟨rfl, (Below.refl _ _).alloc (Nat.le_refl _) _⟩

set_option maxHeartbeats 4000000 in
theorem rends_free (n : Int) (w : World) :
    Calls Tryz.prog 280 #[.int .i64 n] w fun e w' => e = .returned (.bool (enV n)) ∧ Below w.heap.size w w' := by
  rcases all28 n with h | h | rfl | rfl | rfl | rfl | rfl | rfl | rfl | rfl | rfl | rfl | rfl | rfl | rfl | rfl | rfl | rfl | rfl | rfl | rfl | rfl | rfl | rfl | rfl | rfl | rfl | rfl | rfl | rfl
  · have hx : nmV n = ⟨#[]⟩ ∧ enV n = false := by
      unfold nmV enV
      exact ⟨by rw [if_neg (by omega)], decide_eq_false (by omega)⟩
    rw [hx.2]
    have HN := Lib.hid (rname_free n)
    rw [hx.1] at HN
    clear hx
    go_enter Tryz.func280, Tryz.ntmps280
    go_wp2_with fail
    refine (HN.out _).mono ?_
    rintro e w1 ⟨rfl, hb1⟩
    go_wp2_with fail
    refine (HN.out _).mono ?_
    rintro e w2 ⟨rfl, hb2⟩
    go_wp2_with fail
    refine (HN.out _).mono ?_
    rintro e w3 ⟨rfl, hb3⟩
    go_wp2_with fail
    all_goals go_ret
    all_goals exact ⟨rfl, (hb1.trans (hb2.mono hb1.size)).trans (hb3.mono (Nat.le_trans hb1.size hb2.size))⟩
  · have hx : nmV n = ⟨#[]⟩ ∧ enV n = false := by
      unfold nmV enV
      exact ⟨by rw [if_neg (by omega)], decide_eq_false (by omega)⟩
    rw [hx.2]
    have HN := Lib.hid (rname_free n)
    rw [hx.1] at HN
    clear hx
    go_enter Tryz.func280, Tryz.ntmps280
    go_wp2_with fail
    refine (HN.out _).mono ?_
    rintro e w1 ⟨rfl, hb1⟩
    go_wp2_with fail
    refine (HN.out _).mono ?_
    rintro e w2 ⟨rfl, hb2⟩
    go_wp2_with fail
    refine (HN.out _).mono ?_
    rintro e w3 ⟨rfl, hb3⟩
    go_wp2_with fail
    all_goals go_ret
    all_goals exact ⟨rfl, (hb1.trans (hb2.mono hb1.size)).trans (hb3.mono (Nat.le_trans hb1.size hb2.size))⟩
  · have hx : nmV 1 = ⟨#[110, 111, 112]⟩ := rfl
    have HN := Lib.hid (rname_free 1)
    rw [hx] at HN
    clear hx
    go_enter Tryz.func280, Tryz.ntmps280
    go_wp2_with fail
    refine (HN.out _).mono ?_
    rintro e w1 ⟨rfl, hb1⟩
    go_wp2_with fail
    refine (HN.out _).mono ?_
    rintro e w2 ⟨rfl, hb2⟩
    go_wp2_with fail
    refine (HN.out _).mono ?_
    rintro e w3 ⟨rfl, hb3⟩
    go_wp2_with fail
    all_goals go_ret
    all_goals exact ⟨rfl, (hb1.trans (hb2.mono hb1.size)).trans (hb3.mono (Nat.le_trans hb1.size hb2.size))⟩
  · have hx : nmV 2 = ⟨#[115, 101, 116]⟩ := rfl
    have HN := Lib.hid (rname_free 2)
    rw [hx] at HN
    clear hx
    go_enter Tryz.func280, Tryz.ntmps280
    go_wp2_with fail
    refine (HN.out _).mono ?_
    rintro e w1 ⟨rfl, hb1⟩
    go_wp2_with fail
    refine (HN.out _).mono ?_
    rintro e w2 ⟨rfl, hb2⟩
    go_wp2_with fail
    refine (HN.out _).mono ?_
    rintro e w3 ⟨rfl, hb3⟩
    go_wp2_with fail
    all_goals go_ret
    all_goals exact ⟨rfl, (hb1.trans (hb2.mono hb1.size)).trans (hb3.mono (Nat.le_trans hb1.size hb2.size))⟩
  · have hx : nmV 3 = ⟨#[109, 111, 118, 101]⟩ := rfl
    have HN := Lib.hid (rname_free 3)
    rw [hx] at HN
    clear hx
    go_enter Tryz.func280, Tryz.ntmps280
    go_wp2_with fail
    refine (HN.out _).mono ?_
    rintro e w1 ⟨rfl, hb1⟩
    go_wp2_with fail
    refine (HN.out _).mono ?_
    rintro e w2 ⟨rfl, hb2⟩
    go_wp2_with fail
    refine (HN.out _).mono ?_
    rintro e w3 ⟨rfl, hb3⟩
    go_wp2_with fail
    all_goals go_ret
    all_goals exact ⟨rfl, (hb1.trans (hb2.mono hb1.size)).trans (hb3.mono (Nat.le_trans hb1.size hb2.size))⟩
  · have hx : nmV 4 = ⟨#[97, 100, 100]⟩ := rfl
    have HN := Lib.hid (rname_free 4)
    rw [hx] at HN
    clear hx
    go_enter Tryz.func280, Tryz.ntmps280
    go_wp2_with fail
    refine (HN.out _).mono ?_
    rintro e w1 ⟨rfl, hb1⟩
    go_wp2_with fail
    refine (HN.out _).mono ?_
    rintro e w2 ⟨rfl, hb2⟩
    go_wp2_with fail
    refine (HN.out _).mono ?_
    rintro e w3 ⟨rfl, hb3⟩
    go_wp2_with fail
    all_goals go_ret
    all_goals exact ⟨rfl, (hb1.trans (hb2.mono hb1.size)).trans (hb3.mono (Nat.le_trans hb1.size hb2.size))⟩
  · have hx : nmV 5 = ⟨#[115, 117, 98]⟩ := rfl
    have HN := Lib.hid (rname_free 5)
    rw [hx] at HN
    clear hx
    go_enter Tryz.func280, Tryz.ntmps280
    go_wp2_with fail
    refine (HN.out _).mono ?_
    rintro e w1 ⟨rfl, hb1⟩
    go_wp2_with fail
    refine (HN.out _).mono ?_
    rintro e w2 ⟨rfl, hb2⟩
    go_wp2_with fail
    refine (HN.out _).mono ?_
    rintro e w3 ⟨rfl, hb3⟩
    go_wp2_with fail
    all_goals go_ret
    all_goals exact ⟨rfl, (hb1.trans (hb2.mono hb1.size)).trans (hb3.mono (Nat.le_trans hb1.size hb2.size))⟩
  · have hx : nmV 6 = ⟨#[109, 117, 108]⟩ := rfl
    have HN := Lib.hid (rname_free 6)
    rw [hx] at HN
    clear hx
    go_enter Tryz.func280, Tryz.ntmps280
    go_wp2_with fail
    refine (HN.out _).mono ?_
    rintro e w1 ⟨rfl, hb1⟩
    go_wp2_with fail
    refine (HN.out _).mono ?_
    rintro e w2 ⟨rfl, hb2⟩
    go_wp2_with fail
    refine (HN.out _).mono ?_
    rintro e w3 ⟨rfl, hb3⟩
    go_wp2_with fail
    all_goals go_ret
    all_goals exact ⟨rfl, (hb1.trans (hb2.mono hb1.size)).trans (hb3.mono (Nat.le_trans hb1.size hb2.size))⟩
  · have hx : nmV 7 = ⟨#[100, 105, 118]⟩ := rfl
    have HN := Lib.hid (rname_free 7)
    rw [hx] at HN
    clear hx
    go_enter Tryz.func280, Tryz.ntmps280
    go_wp2_with fail
    refine (HN.out _).mono ?_
    rintro e w1 ⟨rfl, hb1⟩
    go_wp2_with fail
    refine (HN.out _).mono ?_
    rintro e w2 ⟨rfl, hb2⟩
    go_wp2_with fail
    refine (HN.out _).mono ?_
    rintro e w3 ⟨rfl, hb3⟩
    go_wp2_with fail
    all_goals go_ret
    all_goals exact ⟨rfl, (hb1.trans (hb2.mono hb1.size)).trans (hb3.mono (Nat.le_trans hb1.size hb2.size))⟩
  · have hx : nmV 8 = ⟨#[109, 111, 100]⟩ := rfl
    have HN := Lib.hid (rname_free 8)
    rw [hx] at HN
    clear hx
    go_enter Tryz.func280, Tryz.ntmps280
    go_wp2_with fail
    refine (HN.out _).mono ?_
    rintro e w1 ⟨rfl, hb1⟩
    go_wp2_with fail
    refine (HN.out _).mono ?_
    rintro e w2 ⟨rfl, hb2⟩
    go_wp2_with fail
    refine (HN.out _).mono ?_
    rintro e w3 ⟨rfl, hb3⟩
    go_wp2_with fail
    all_goals go_ret
    all_goals exact ⟨rfl, (hb1.trans (hb2.mono hb1.size)).trans (hb3.mono (Nat.le_trans hb1.size hb2.size))⟩
  · have hx : nmV 9 = ⟨#[108, 101, 115, 115]⟩ := rfl
    have HN := Lib.hid (rname_free 9)
    rw [hx] at HN
    clear hx
    go_enter Tryz.func280, Tryz.ntmps280
    go_wp2_with fail
    refine (HN.out _).mono ?_
    rintro e w1 ⟨rfl, hb1⟩
    go_wp2_with fail
    refine (HN.out _).mono ?_
    rintro e w2 ⟨rfl, hb2⟩
    go_wp2_with fail
    refine (HN.out _).mono ?_
    rintro e w3 ⟨rfl, hb3⟩
    go_wp2_with fail
    all_goals go_ret
    all_goals exact ⟨rfl, (hb1.trans (hb2.mono hb1.size)).trans (hb3.mono (Nat.le_trans hb1.size hb2.size))⟩
  · have hx : nmV 10 = ⟨#[115, 97, 109, 101]⟩ := rfl
    have HN := Lib.hid (rname_free 10)
    rw [hx] at HN
    clear hx
    go_enter Tryz.func280, Tryz.ntmps280
    go_wp2_with fail
    refine (HN.out _).mono ?_
    rintro e w1 ⟨rfl, hb1⟩
    go_wp2_with fail
    refine (HN.out _).mono ?_
    rintro e w2 ⟨rfl, hb2⟩
    go_wp2_with fail
    refine (HN.out _).mono ?_
    rintro e w3 ⟨rfl, hb3⟩
    go_wp2_with fail
    all_goals go_ret
    all_goals exact ⟨rfl, (hb1.trans (hb2.mono hb1.size)).trans (hb3.mono (Nat.le_trans hb1.size hb2.size))⟩
  · have hx : nmV 11 = ⟨#[106, 117, 109, 112]⟩ := rfl
    have HN := Lib.hid (rname_free 11)
    rw [hx] at HN
    clear hx
    go_enter Tryz.func280, Tryz.ntmps280
    go_wp2_with fail
    refine (HN.out _).mono ?_
    rintro e w1 ⟨rfl, hb1⟩
    go_wp2_with fail
    all_goals go_ret
    all_goals exact ⟨rfl, hb1⟩
  · have hx : nmV 12 = ⟨#[122, 101, 114, 111]⟩ := rfl
    have HN := Lib.hid (rname_free 12)
    rw [hx] at HN
    clear hx
    go_enter Tryz.func280, Tryz.ntmps280
    go_wp2_with fail
    refine (HN.out _).mono ?_
    rintro e w1 ⟨rfl, hb1⟩
    go_wp2_with fail
    refine (HN.out _).mono ?_
    rintro e w2 ⟨rfl, hb2⟩
    go_wp2_with fail
    refine (HN.out _).mono ?_
    rintro e w3 ⟨rfl, hb3⟩
    go_wp2_with fail
    all_goals go_ret
    all_goals exact ⟨rfl, (hb1.trans (hb2.mono hb1.size)).trans (hb3.mono (Nat.le_trans hb1.size hb2.size))⟩
  · have hx : nmV 13 = ⟨#[105, 110]⟩ := rfl
    have HN := Lib.hid (rname_free 13)
    rw [hx] at HN
    clear hx
    go_enter Tryz.func280, Tryz.ntmps280
    go_wp2_with fail
    refine (HN.out _).mono ?_
    rintro e w1 ⟨rfl, hb1⟩
    go_wp2_with fail
    refine (HN.out _).mono ?_
    rintro e w2 ⟨rfl, hb2⟩
    go_wp2_with fail
    refine (HN.out _).mono ?_
    rintro e w3 ⟨rfl, hb3⟩
    go_wp2_with fail
    all_goals go_ret
    all_goals exact ⟨rfl, (hb1.trans (hb2.mono hb1.size)).trans (hb3.mono (Nat.le_trans hb1.size hb2.size))⟩
  · have hx : nmV 14 = ⟨#[111, 117, 116]⟩ := rfl
    have HN := Lib.hid (rname_free 14)
    rw [hx] at HN
    clear hx
    go_enter Tryz.func280, Tryz.ntmps280
    go_wp2_with fail
    refine (HN.out _).mono ?_
    rintro e w1 ⟨rfl, hb1⟩
    go_wp2_with fail
    refine (HN.out _).mono ?_
    rintro e w2 ⟨rfl, hb2⟩
    go_wp2_with fail
    refine (HN.out _).mono ?_
    rintro e w3 ⟨rfl, hb3⟩
    go_wp2_with fail
    all_goals go_ret
    all_goals exact ⟨rfl, (hb1.trans (hb2.mono hb1.size)).trans (hb3.mono (Nat.le_trans hb1.size hb2.size))⟩
  · have hx : nmV 15 = ⟨#[108, 111, 97, 100]⟩ := rfl
    have HN := Lib.hid (rname_free 15)
    rw [hx] at HN
    clear hx
    go_enter Tryz.func280, Tryz.ntmps280
    go_wp2_with fail
    refine (HN.out _).mono ?_
    rintro e w1 ⟨rfl, hb1⟩
    go_wp2_with fail
    refine (HN.out _).mono ?_
    rintro e w2 ⟨rfl, hb2⟩
    go_wp2_with fail
    refine (HN.out _).mono ?_
    rintro e w3 ⟨rfl, hb3⟩
    go_wp2_with fail
    all_goals go_ret
    all_goals exact ⟨rfl, (hb1.trans (hb2.mono hb1.size)).trans (hb3.mono (Nat.le_trans hb1.size hb2.size))⟩
  · have hx : nmV 16 = ⟨#[115, 116, 111, 114, 101]⟩ := rfl
    have HN := Lib.hid (rname_free 16)
    rw [hx] at HN
    clear hx
    go_enter Tryz.func280, Tryz.ntmps280
    go_wp2_with fail
    refine (HN.out _).mono ?_
    rintro e w1 ⟨rfl, hb1⟩
    go_wp2_with fail
    refine (HN.out _).mono ?_
    rintro e w2 ⟨rfl, hb2⟩
    go_wp2_with fail
    refine (HN.out _).mono ?_
    rintro e w3 ⟨rfl, hb3⟩
    go_wp2_with fail
    all_goals go_ret
    all_goals exact ⟨rfl, (hb1.trans (hb2.mono hb1.size)).trans (hb3.mono (Nat.le_trans hb1.size hb2.size))⟩
  · have hx : nmV 17 = ⟨#[102, 117, 110, 99]⟩ := rfl
    have HN := Lib.hid (rname_free 17)
    rw [hx] at HN
    clear hx
    go_enter Tryz.func280, Tryz.ntmps280
    go_wp2_with fail
    refine (HN.out _).mono ?_
    rintro e w1 ⟨rfl, hb1⟩
    go_wp2_with fail
    refine (HN.out _).mono ?_
    rintro e w2 ⟨rfl, hb2⟩
    go_wp2_with fail
    refine (HN.out _).mono ?_
    rintro e w3 ⟨rfl, hb3⟩
    go_wp2_with fail
    all_goals go_ret
    all_goals exact ⟨rfl, (hb1.trans (hb2.mono hb1.size)).trans (hb3.mono (Nat.le_trans hb1.size hb2.size))⟩
  · have hx : nmV 18 = ⟨#[112, 105, 99, 107]⟩ := rfl
    have HN := Lib.hid (rname_free 18)
    rw [hx] at HN
    clear hx
    go_enter Tryz.func280, Tryz.ntmps280
    go_wp2_with fail
    refine (HN.out _).mono ?_
    rintro e w1 ⟨rfl, hb1⟩
    go_wp2_with fail
    refine (HN.out _).mono ?_
    rintro e w2 ⟨rfl, hb2⟩
    go_wp2_with fail
    refine (HN.out _).mono ?_
    rintro e w3 ⟨rfl, hb3⟩
    go_wp2_with fail
    all_goals go_ret
    all_goals exact ⟨rfl, (hb1.trans (hb2.mono hb1.size)).trans (hb3.mono (Nat.le_trans hb1.size hb2.size))⟩
  · have hx : nmV 19 = ⟨#[99, 97, 108, 108]⟩ := rfl
    have HN := Lib.hid (rname_free 19)
    rw [hx] at HN
    clear hx
    go_enter Tryz.func280, Tryz.ntmps280
    go_wp2_with fail
    refine (HN.out _).mono ?_
    rintro e w1 ⟨rfl, hb1⟩
    go_wp2_with fail
    refine (HN.out _).mono ?_
    rintro e w2 ⟨rfl, hb2⟩
    go_wp2_with fail
    refine (HN.out _).mono ?_
    rintro e w3 ⟨rfl, hb3⟩
    go_wp2_with fail
    all_goals go_ret
    all_goals exact ⟨rfl, (hb1.trans (hb2.mono hb1.size)).trans (hb3.mono (Nat.le_trans hb1.size hb2.size))⟩
  · have hx : nmV 20 = ⟨#[118, 105, 97]⟩ := rfl
    have HN := Lib.hid (rname_free 20)
    rw [hx] at HN
    clear hx
    go_enter Tryz.func280, Tryz.ntmps280
    go_wp2_with fail
    refine (HN.out _).mono ?_
    rintro e w1 ⟨rfl, hb1⟩
    go_wp2_with fail
    refine (HN.out _).mono ?_
    rintro e w2 ⟨rfl, hb2⟩
    go_wp2_with fail
    refine (HN.out _).mono ?_
    rintro e w3 ⟨rfl, hb3⟩
    go_wp2_with fail
    all_goals go_ret
    all_goals exact ⟨rfl, (hb1.trans (hb2.mono hb1.size)).trans (hb3.mono (Nat.le_trans hb1.size hb2.size))⟩
  · have hx : nmV 21 = ⟨#[100, 101, 102, 101, 114]⟩ := rfl
    have HN := Lib.hid (rname_free 21)
    rw [hx] at HN
    clear hx
    go_enter Tryz.func280, Tryz.ntmps280
    go_wp2_with fail
    refine (HN.out _).mono ?_
    rintro e w1 ⟨rfl, hb1⟩
    go_wp2_with fail
    refine (HN.out _).mono ?_
    rintro e w2 ⟨rfl, hb2⟩
    go_wp2_with fail
    refine (HN.out _).mono ?_
    rintro e w3 ⟨rfl, hb3⟩
    go_wp2_with fail
    all_goals go_ret
    all_goals exact ⟨rfl, (hb1.trans (hb2.mono hb1.size)).trans (hb3.mono (Nat.le_trans hb1.size hb2.size))⟩
  · have hx : nmV 22 = ⟨#[112, 97, 110, 105, 99]⟩ := rfl
    have HN := Lib.hid (rname_free 22)
    rw [hx] at HN
    clear hx
    go_enter Tryz.func280, Tryz.ntmps280
    go_wp2_with fail
    refine (HN.out _).mono ?_
    rintro e w1 ⟨rfl, hb1⟩
    go_wp2_with fail
    refine (HN.out _).mono ?_
    rintro e w2 ⟨rfl, hb2⟩
    go_wp2_with fail
    all_goals go_ret
    all_goals exact ⟨rfl, hb1.trans (hb2.mono hb1.size)⟩
  · have hx : nmV 23 = ⟨#[114, 101, 99, 111, 118, 101, 114]⟩ := rfl
    have HN := Lib.hid (rname_free 23)
    rw [hx] at HN
    clear hx
    go_enter Tryz.func280, Tryz.ntmps280
    go_wp2_with fail
    refine (HN.out _).mono ?_
    rintro e w1 ⟨rfl, hb1⟩
    go_wp2_with fail
    refine (HN.out _).mono ?_
    rintro e w2 ⟨rfl, hb2⟩
    go_wp2_with fail
    refine (HN.out _).mono ?_
    rintro e w3 ⟨rfl, hb3⟩
    go_wp2_with fail
    all_goals go_ret
    all_goals exact ⟨rfl, (hb1.trans (hb2.mono hb1.size)).trans (hb3.mono (Nat.le_trans hb1.size hb2.size))⟩
  · have hx : nmV 24 = ⟨#[114, 101, 116, 117, 114, 110]⟩ := rfl
    have HN := Lib.hid (rname_free 24)
    rw [hx] at HN
    clear hx
    go_enter Tryz.func280, Tryz.ntmps280
    go_wp2_with fail
    refine (HN.out _).mono ?_
    rintro e w1 ⟨rfl, hb1⟩
    go_wp2_with fail
    refine (HN.out _).mono ?_
    rintro e w2 ⟨rfl, hb2⟩
    go_wp2_with fail
    refine (HN.out _).mono ?_
    rintro e w3 ⟨rfl, hb3⟩
    go_wp2_with fail
    all_goals go_ret
    all_goals exact ⟨rfl, (hb1.trans (hb2.mono hb1.size)).trans (hb3.mono (Nat.le_trans hb1.size hb2.size))⟩
  · have hx : nmV 25 = ⟨#[99, 104, 101, 99, 107]⟩ := rfl
    have HN := Lib.hid (rname_free 25)
    rw [hx] at HN
    clear hx
    go_enter Tryz.func280, Tryz.ntmps280
    go_wp2_with fail
    refine (HN.out _).mono ?_
    rintro e w1 ⟨rfl, hb1⟩
    go_wp2_with fail
    refine (HN.out _).mono ?_
    rintro e w2 ⟨rfl, hb2⟩
    go_wp2_with fail
    refine (HN.out _).mono ?_
    rintro e w3 ⟨rfl, hb3⟩
    go_wp2_with fail
    all_goals go_ret
    all_goals exact ⟨rfl, (hb1.trans (hb2.mono hb1.size)).trans (hb3.mono (Nat.le_trans hb1.size hb2.size))⟩
  · have hx : nmV 26 = ⟨#[101, 110, 116, 101, 114]⟩ := rfl
    have HN := Lib.hid (rname_free 26)
    rw [hx] at HN
    clear hx
    go_enter Tryz.func280, Tryz.ntmps280
    go_wp2_with fail
    refine (HN.out _).mono ?_
    rintro e w1 ⟨rfl, hb1⟩
    go_wp2_with fail
    refine (HN.out _).mono ?_
    rintro e w2 ⟨rfl, hb2⟩
    go_wp2_with fail
    refine (HN.out _).mono ?_
    rintro e w3 ⟨rfl, hb3⟩
    go_wp2_with fail
    all_goals go_ret
    all_goals exact ⟨rfl, (hb1.trans (hb2.mono hb1.size)).trans (hb3.mono (Nat.le_trans hb1.size hb2.size))⟩
  · have hx : nmV 27 = ⟨#[98, 111, 116, 116, 111, 109]⟩ := rfl
    have HN := Lib.hid (rname_free 27)
    rw [hx] at HN
    clear hx
    go_enter Tryz.func280, Tryz.ntmps280
    go_wp2_with fail
    refine (HN.out _).mono ?_
    rintro e w1 ⟨rfl, hb1⟩
    go_wp2_with fail
    refine (HN.out _).mono ?_
    rintro e w2 ⟨rfl, hb2⟩
    go_wp2_with fail
    refine (HN.out _).mono ?_
    rintro e w3 ⟨rfl, hb3⟩
    go_wp2_with fail
    all_goals go_ret
    all_goals exact ⟨rfl, (hb1.trans (hb2.mono hb1.size)).trans (hb3.mono (Nat.le_trans hb1.size hb2.size))⟩
  · have hx : nmV 28 = ⟨#[100, 114, 105, 118, 101, 114]⟩ := rfl
    have HN := Lib.hid (rname_free 28)
    rw [hx] at HN
    clear hx
    go_enter Tryz.func280, Tryz.ntmps280
    go_wp2_with fail
    refine (HN.out _).mono ?_
    rintro e w1 ⟨rfl, hb1⟩
    go_wp2_with fail
    refine (HN.out _).mono ?_
    rintro e w2 ⟨rfl, hb2⟩
    go_wp2_with fail
    refine (HN.out _).mono ?_
    rintro e w3 ⟨rfl, hb3⟩
    go_wp2_with fail
    all_goals go_ret
    all_goals exact ⟨rfl, (hb1.trans (hb2.mono hb1.size)).trans (hb3.mono (Nat.le_trans hb1.size hb2.size))⟩

end Go.Proofs.YtbknmapkdjmcjaaGreatDoor.By
