/-
  WALKS of layer 14: Check, and the document's own.
-/
import Derived.Test.YtckpbdphilifoaaUg
namespace Go.Proofs.Ytckpbdphilifoaa.By
open Go.RowKit
open Mem Gm Rf

/-- A place that the code has not. -/
def lv (n : Nat) (x : Int) : Bool := !(decide (0 ≤ x) && decide (x < (n : Int)))

theorem leaves_any (W : World) (pb : Nat) (A : Option Addr) (n c : Nat) (hc : W.cell? ⟨pb, 0, none⟩ = some (.slice A n c)) (x : Int) :
    Calls Try.prog 55 #[.int .i64 x, .pointer (some ⟨pb, 0, none⟩)] W fun e w' => e = .returned (.bool (lv n x)) ∧ W = w' := by
  have HP := Lib.hid (place_any A n c x)
  unfold lv
  generalize (decide (0 ≤ x) && decide (x < (n : Int))) = bl at HP
  go_enter Try.func55, Try.ntmps55
  go_wp2_with (go_at_call 49; refine (HP.out _).mono ?_; rintro e w9 ⟨rfl, rfl⟩)
  go_ret
  exact ⟨rfl, rfl⟩

def Els (W : World) (A : Option Addr) (M : Nat) (l : List Int) : Prop := ∀ j, j < M → ∃ ad, A = some ad ∧ W.cell? (ad.add j) = some (.int .i64 (el l j))

theorem any_el (l : List Int) (p : Int → Bool) : l.any p = true ↔ ∃ j, j < l.length ∧ p (el l j) = true := by
  rw [List.any_eq_true]
  constructor
  · rintro ⟨x, hx, hp⟩
    obtain ⟨j, hj, rfl⟩ := List.getElem_of_mem hx
    exact ⟨j, hj, by rw [← el_at hj]; exact hp⟩
  · rintro ⟨j, hj, hp⟩
    exact ⟨l[j], List.getElem_mem _, by rw [el_at hj]; exact hp⟩

set_option maxHeartbeats 1000000 in
theorem index_any (W : World) (pb : Nat) (A A3 : Option Addr) (n c M c3 : Nat) (l : List Int) (hc : W.cell? ⟨pb, 0, none⟩ = some (.slice A n c)) (hM : l.length = M) (hm : M ≤ 1000000) (hl : Els W A3 M l) :
    Calls Try.prog 73 #[.slice A3 M c3, .func (.func 55) #[] #[.pointer (some ⟨pb, 0, none⟩)]] W fun e w' => ∃ r : Int, e = .returned (.int .i64 r) ∧ decide (0 ≤ r) = l.any (lv n) ∧ W = w' := by
  have HL := Lib.hid (leaves_any W pb A n c hc)
  have HE := Lib.hid hl
  have HM := Lib.hid hM
  clear hc hl hM
  go_enter Try.func73, Try.ntmps73
  go_wp2_with fail
  go_loop [8] (fun i => ∃ k : Nat, k ≤ M ∧ i = .int .i64 (k : Int) ∧ Hid (∀ j, j < k → lv n (el l j) = false)) (fun i => M - (intOf i).toNat)
  case atStart => exact ⟨0, Nat.zero_le _, rfl, Lib.hid (fun j hj => by omega)⟩
  case round =>
    obtain ⟨k, hk, rfl, HO⟩ := hrel
    by_cases hlt : k < M
    · obtain ⟨ad, rfl, hx⟩ := HE.out k hlt
      have hkI : (k : Int) < (M : Int) := by omega
      obtain ⟨x, hxe⟩ : ∃ x, el l k = x := ⟨_, rfl⟩
      rw [hxe] at hx
      cases hb : lv n x with
      | true =>
        have HC := Lib.hid (HL.out x)
        rw [hb] at HC
        have HF := Lib.hid (show l.any (lv n) = true from (any_el l _).2 ⟨k, by rw [HM.out]; exact hlt, by rw [hxe]; exact hb⟩)
        clear hxe hb
        go_wp2_with (go_at_call 55; refine HC.out.mono ?_; rintro e w9 ⟨rfl, rfl⟩)
        go_ret
        exact ⟨k, rfl, by rw [HF.out]; simp, rfl⟩
      | false =>
        have HC := Lib.hid (HL.out x)
        rw [hb] at HC
        have HO2 := Lib.hid (show ∀ j, j < k + 1 → lv n (el l j) = false from fun j hj => by
          by_cases e : j = k
          · subst e; rw [hxe]; exact hb
          · exact HO.out j (by omega))
        clear hxe hb HO
        go_wp2_with (go_at_call 55; refine HC.out.mono ?_; rintro e w9 ⟨rfl, rfl⟩)
        go_round
        case rel => exact ⟨k + 1, by omega, by go_num, HO2⟩
        case measure => simp [intOf]; omega
    · obtain rfl : k = M := by omega
      have HF := Lib.hid (show l.any (lv n) = false by
        rw [Bool.eq_false_iff]
        intro h
        obtain ⟨j, hj, hp⟩ := (any_el l _).1 h
        rw [HM.out] at hj
        rw [HO.out j hj] at hp
        cases hp)
      go_wp2_with fail
      go_ret
      exact ⟨-1, rfl, by rw [HF.out]; rfl, rfl⟩

theorem contains_any (W : World) (pb : Nat) (A A3 : Option Addr) (n c M c3 : Nat) (l : List Int) (hc : W.cell? ⟨pb, 0, none⟩ = some (.slice A n c)) (hM : l.length = M) (hm : M ≤ 1000000) (hl : Els W A3 M l) :
    Calls Try.prog 57 #[.slice A3 M c3, .func (.func 55) #[] #[.pointer (some ⟨pb, 0, none⟩)]] W fun e w' => e = .returned (.bool (l.any (lv n))) ∧ W = w' := by
  have HI := Lib.hid (index_any W pb A A3 n c M c3 l hc hM hm hl)
  clear hc hl hM
  go_enter Try.func57, Try.ntmps57
  go_wp2_with (go_at_call 73; refine HI.out.mono ?_; rintro e w9 ⟨r, rfl, hr, rfl⟩; have HR := Lib.hid hr; clear hr)
  go_ret
  exact ⟨ret_bool (by rw [← HR.out]), rfl⟩

/-- What Check answers. -/
def chk (n : Nat) (g : List (List Int)) : Int := if n = 0 then 3 else if 64 < n then 6 else if (∃ i, i < n ∧ (rowOf g i).any (lv n) = true) then 10 else 0

end Go.Proofs.Ytckpbdphilifoaa.By
