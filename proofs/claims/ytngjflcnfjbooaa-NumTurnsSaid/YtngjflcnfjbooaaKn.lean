/-
  WALK: known of layer 1's laws (function 13): it answers true; of the world nothing that was there turns.
-/
import Derived.Test.YtngjflcnfjbooaaDo
import Derived.Test.YtngjflcnfjbooaaBd
import Derived.Test.YtngjflcnfjbooaaDoMath
namespace Go.Proofs.Ytngjflcnfjbooaa.Num
open Go.ChangeShapes Go.WideShapes Go.ChangeAt Go.RowKit

theorem grown_trans {a b c : World} (h1 : Grown a b) (h2 : Grown b c) : Grown a c :=
  ⟨World.keptBut_trans h1.1 h2.1, fun x => (h2.2.1 x).trans (h1.2.1 x), Nat.le_trans h1.2.2 h2.2.2⟩

theorem d_known1 (w : World) : Calls Try.prog 14 #[.int .i64 100, .int .i64 350, .int .i64 1000] w fun e w' => e = .returned (.tuple #[.int .i64 400, .bool true]) ∧ w = w' := by
  have h := double_any 100 350 1000 (by omega) w
  rwa [show dbl 100 350 1000 = (400, true) from by decide] at h
theorem d_known2 (w : World) : Calls Try.prog 14 #[.int .i64 100, .int .i64 350, .int .i64 399] w fun e w' => e = .returned (.tuple #[.int .i64 0, .bool false]) ∧ w = w' := by
  have h := double_any 100 350 399 (by omega) w
  rwa [show dbl 100 350 399 = (0, false) from by decide] at h
theorem n_known (w : World) : Calls Try.prog 16 #[.int .i64 5, .int .i64 1, .int .i64 3] w fun e w' => e = .returned (.int .i64 3) ∧ w = w' := near_any 5 1 3 w
theorem f_known1 (w : World) : Calls Try.prog 18 #[.int .i64 255, .int .i64 8] w fun e w' => e = .returned (.bool true) ∧ w = w' := by
  have h := fits_any 255 8 w
  rwa [show fitB 255 8 = true from by decide] at h
theorem f_known2 (w : World) : Calls Try.prog 18 #[.int .i64 256, .int .i64 8] w fun e w' => e = .returned (.bool false) ∧ w = w' := by
  have h := fits_any 256 8 w
  rwa [show fitB 256 8 = false from by decide] at h
theorem do_known1 (w : World) : Calls Try.prog 11 #[.int .i64 7, .int .i64 (-7), .int .i64 2] w fun e w' => e = .returned (.tuple #[.int .i64 (-3), .bool true]) ∧ Grown w w' := by
  have h := do_div (-7) 2 rfl (by decide) w
  rwa [show wrap64 ((-7 : Int).tdiv 2) = -3 from by decide +kernel] at h
theorem do_known2 (w : World) : Calls Try.prog 11 #[.int .i64 8, .int .i64 (-7), .int .i64 2] w fun e w' => e = .returned (.tuple #[.int .i64 (-1), .bool true]) ∧ Grown w w' := by
  have h := do_mod (-7) 2 rfl (by decide) w
  rwa [show (-7 : Int).tmod 2 = -1 from by decide] at h
theorem do_known3 (w : World) : Calls Try.prog 11 #[.int .i64 7, .int .i64 1, .int .i64 0] w fun e w' => e = .returned (.tuple #[.int .i64 0, .bool false]) ∧ Grown w w' := do_div0 1 w

set_option maxHeartbeats 1000000 in
set_option maxRecDepth 100000 in
theorem known_any (w : World) : Calls Try.prog 13 #[] w fun e w' => e = .returned (.bool true) ∧ Grown w w' := by
  go_enter Try.func13, Try.ntmps13
  go_wp2_with fail
  refine (do_known1 _).mono ?_
  rintro e w1 ⟨rfl, g1⟩
  go_wp2_with fail
  refine (do_known2 _).mono ?_
  rintro e w2 ⟨rfl, g2⟩
  go_wp2_with fail
  refine (do_known3 _).mono ?_
  rintro e w3 ⟨rfl, g3⟩
  go_wp2_with fail
  refine (d_known1 _).mono ?_
  rintro e w4 ⟨rfl, rfl⟩
  go_wp2_with fail
  refine (d_known2 _).mono ?_
  rintro e w5 ⟨rfl, rfl⟩
  go_wp2_with fail
  refine (n_known _).mono ?_
  rintro e w6 ⟨rfl, rfl⟩
  go_wp2_with fail
  refine (f_known1 _).mono ?_
  rintro e w7 ⟨rfl, rfl⟩
  go_wp2_with fail
  refine (f_known2 _).mono ?_
  rintro e w8 ⟨rfl, rfl⟩
  go_wp2_with fail
  go_ret
  exact ⟨rfl, grown_trans (grown_trans g1 g2) g3⟩

/-- num.Do and the document's own answer the same. -/
def DoSame (op b c : Int) : Prop := ∃ (v : Int) (ok : Bool),
  (∀ w, Calls Try.prog 11 #[.int .i64 op, .int .i64 b, .int .i64 c] w fun e w' => e = .returned (.tuple #[.int .i64 v, .bool ok]) ∧ Grown w w') ∧
  (∀ w, Calls Try.prog 12 #[.int .i64 op, .int .i64 b, .int .i64 c] w fun e w' => e = .returned (.tuple #[.int .i64 v, .bool ok]) ∧ w = w')

theorem do_like (op b c : Int) (wb : -9223372036854775808 ≤ b ∧ b ≤ 9223372036854775807) : DoSame op b c := by
  by_cases hu : op < 4
  · by_cases hc : c = 0
    · subst hc; exact ⟨_, _, do_under op b 0 hu, ref_under0 op b hu⟩
    · exact ⟨_, _, do_under op b c hu, ref_under op b c hu (by simpa using hc) (by simp; omega) (by simp; omega)⟩
  by_cases ho : 10 < op
  · by_cases hc : c = 0
    · subst hc; exact ⟨_, _, do_over op b 0 ho, ref_over0 op b ho⟩
    · exact ⟨_, _, do_over op b c ho, ref_over op b c ho (by simpa using hc) (by simp; omega) (by simp; omega)⟩
  have h : op = 4 ∨ op = 5 ∨ op = 6 ∨ op = 7 ∨ op = 8 ∨ op = 9 ∨ op = 10 := by omega
  rcases h with rfl | rfl | rfl | rfl | rfl | rfl | rfl
  · exact ⟨_, _, do_add b c, ref_add b c⟩
  · exact ⟨_, _, do_sub b c, ref_sub b c⟩
  · exact ⟨_, _, do_mul b c, ref_mul b c⟩
  · by_cases hc : c = 0
    · subst hc; exact ⟨_, _, do_div0 b, ref_div0 b⟩
    · by_cases hm : c = -1
      · subst hm
        refine ⟨_, _, do_div b (-1) rfl (by decide), fun w => ?_⟩
        rw [tdiv_m]
        exact ref_divm b w
      · exact ⟨_, _, do_div b c (by simpa using hc) hc, ref_div b c (by simpa using hc) (by simpa using hm) hc⟩
  · by_cases hc : c = 0
    · subst hc; exact ⟨_, _, do_mod0 b, ref_mod0 b⟩
    · by_cases hm : c = -1
      · subst hm
        refine ⟨_, _, do_mod b (-1) rfl (by decide), fun w => ?_⟩
        rw [tmod_m]
        have h := ref_modm b w
        rwa [rest_m] at h
      · refine ⟨_, _, do_mod b c (by simpa using hc) hc, fun w => ?_⟩
        have h := ref_mod b c (by simpa using hc) (by simpa using hm) hc w
        rwa [rest b c wb] at h
  · by_cases hl : b < c
    · exact ⟨_, _, do_less b c hl, ref_less b c hl⟩
    · exact ⟨_, _, do_nless b c hl, ref_nless b c hl⟩
  · by_cases hl : b = c
    · subst hl; exact ⟨_, _, do_same b, ref_same b⟩
    · exact ⟨_, _, do_nsame b c (by simpa using hl), ref_nsame b c (by simpa using hl)⟩
/-- Of less one way, less the other way, and same just one holds. -/
theorem three (b c : Int) : ∃ x y z : Int,
    (∀ w, Calls Try.prog 11 #[.int .i64 9, .int .i64 b, .int .i64 c] w fun e w' => e = .returned (.tuple #[.int .i64 x, .bool true]) ∧ Grown w w') ∧
    (∀ w, Calls Try.prog 11 #[.int .i64 9, .int .i64 c, .int .i64 b] w fun e w' => e = .returned (.tuple #[.int .i64 y, .bool true]) ∧ Grown w w') ∧
    (∀ w, Calls Try.prog 11 #[.int .i64 10, .int .i64 b, .int .i64 c] w fun e w' => e = .returned (.tuple #[.int .i64 z, .bool true]) ∧ Grown w w') ∧
    ((x = 1 ∧ y = 0 ∧ z = 0) ∨ (x = 0 ∧ y = 1 ∧ z = 0) ∨ (x = 0 ∧ y = 0 ∧ z = 1)) := by
  rcases Int.lt_trichotomy b c with h | h | h
  · exact ⟨_, _, _, do_less b c h, do_nless c b (by omega), do_nsame b c (by simp; omega), Or.inl ⟨rfl, rfl, rfl⟩⟩
  · subst h
    exact ⟨_, _, _, do_nless b b (by omega), do_nless b b (by omega), do_same b, Or.inr (Or.inr ⟨rfl, rfl, rfl⟩)⟩
  · exact ⟨_, _, _, do_nless b c (by omega), do_less c b h, do_nsame b c (by simp; omega), Or.inr (Or.inl ⟨rfl, rfl, rfl⟩)⟩
end Go.Proofs.Ytngjflcnfjbooaa.Num
