/-
  WALKS: the laws NameTells and NameJoins, of what came in.
-/
import Derived.Test.YtlpmndljjdljmaaDoorNl
namespace Go.Proofs.YtlpmndljjdljmaaDoor.By
open Go.RowKit
open Mem Nam

theorem dec_pos (n : Nat) : 0 < (Lib.decDigits n).length := by
  rw [Lib.decDigits]
  split <;> simp

theorem digit_inj {a b : Nat} (ha : a < 10) (hb : b < 10) (h : UInt8.ofNat (48 + a) = UInt8.ofNat (48 + b)) : a = b := by
  have := congrArg UInt8.toNat h
  simp at this
  omega

theorem dec_eq (n : Nat) : Lib.decDigits n = if n < 10 then [UInt8.ofNat (48 + n)] else Lib.decDigits (n / 10) ++ [UInt8.ofNat (48 + n % 10)] := by
  conv => lhs; rw [Lib.decDigits]
  split <;> rfl

/-- Unlike numbers have unlike digits. -/
theorem dec_inj : ∀ (n m : Nat), Lib.decDigits n = Lib.decDigits m → n = m := by
  intro n
  induction n using Nat.strongRecOn with
  | _ n ih =>
    intro m h
    rw [dec_eq n, dec_eq m] at h
    by_cases h1 : n < 10 <;> by_cases h2 : m < 10
    · rw [if_pos h1, if_pos h2] at h
      exact digit_inj h1 h2 (by simpa using h)
    · rw [if_pos h1, if_neg h2] at h
      have h3 := congrArg List.length h
      rw [List.length_append, List.length_singleton, List.length_singleton] at h3
      have := dec_pos (m / 10)
      omega
    · rw [if_neg h1, if_pos h2] at h
      have h3 := congrArg List.length h
      rw [List.length_append, List.length_singleton, List.length_singleton] at h3
      have := dec_pos (n / 10)
      omega
    · rw [if_neg h1, if_neg h2] at h
      obtain ⟨e1, e2⟩ := List.append_inj' h rfl
      have q := ih (n / 10) (by omega) (m / 10) e1
      have r := digit_inj (Nat.mod_lt n (by omega)) (Nat.mod_lt m (by omega)) (List.singleton_inj.1 e2)
      omega

theorem glued_ne (a : Int) (l : Bs) : glued a l ≠ [] := by unfold glued; simp

theorem join_cases (a : Int) (l : Bs) : (joinV a l = [] ) ∨ (0 ≤ a ∧ joinV a l = glued a l ∧ checkV (glued a l) = 0) := by
  unfold joinV
  split
  · rename_i h; exact .inr ⟨h.1, rfl, h.2⟩
  · exact .inl rfl

theorem joins_law (a b : Int) (l : Bs) (h : joinV a l ≠ []) : checkV (joinV a l) = 0 ∧ (joinV a l = joinV b l ↔ a = b) := by
  rcases join_cases a l with h0 | ⟨ha, he, hc⟩
  · exact absurd h0 h
  · rw [he]
    refine ⟨hc, ?_, fun e => by rw [← e, he]⟩
    intro e
    rcases join_cases b l with h0 | ⟨hb, he2, _⟩
    · rw [h0] at e; exact absurd e (glued_ne a l)
    · rw [he2] at e
      unfold glued at e
      have e2 := List.append_cancel_left e
      unfold Lib.itoa at e2
      rw [if_neg (by omega), if_neg (by omega)] at e2
      have := dec_inj _ _ e2
      omega

set_option maxHeartbeats 1000000 in
theorem joins_any (w : World) (a b : Int) (s : ByteArray) (ha : -9223372036854775808 ≤ a ∧ a ≤ 9223372036854775807) (hb : -9223372036854775808 ≤ b ∧ b ≤ 9223372036854775807) (ht : Tab w) :
    Calls Tryd.prog 5 #[.int .i64 a, .int .i64 b, .string s] w fun e w' => e = .returned (.bool true) ∧ Below w.heap.size w w' := by
  have HT := Lib.hid ht
  by_cases hbig : 200 < s.size
  · have hd : decide (200 < (s.size : Int)) = true := by simp; omega
    clear hbig ht
    go_enter Tryd.func5, Tryd.ntmps5
    go_wp2_with fail
    refine (known_name _ HT.out).mono ?_
    rintro e w1 ⟨rfl, hb⟩
    go_wp2_with fail
    go_ret
    exact ⟨rfl, hb⟩
  · have hd : decide (200 < (s.size : Int)) = false := by simp; omega
    have HX := Lib.hid (join_any a s ha.1 ha.2 (by omega) w ht)
    have HY := Lib.hid (show ∀ W, Tab W → _ from fun W hW => join_any b s hb.1 hb.2 (by omega) W hW)
    have HLAW := Lib.hid (joins_law a b s.data.toList)
    obtain ⟨x, hx⟩ : ∃ x : ByteArray, (⟨(joinV a s.data.toList).toArray⟩ : ByteArray) = x := ⟨_, rfl⟩
    obtain ⟨y, hy⟩ : ∃ y : ByteArray, (⟨(joinV b s.data.toList).toArray⟩ : ByteArray) = y := ⟨_, rfl⟩
    have hxl : ByteArray.toList x = joinV a s.data.toList := by rw [← hx, text_list]
    have hyl : ByteArray.toList y = joinV b s.data.toList := by rw [← hy, text_list]
    have hxd : x.data.toList = joinV a s.data.toList := by rw [← hx]
    rw [hx] at HX
    rw [hy] at HY
    have hcase : ByteArray.toList x = [] ∨ (ByteArray.toList x ≠ [] ∧ (ByteArray.toList x).isEmpty = false ∧ checkV x.data.toList = 0 ∧ ∃ c : Bool, (ByteArray.toList x == ByteArray.toList y) = c ∧ (a == b) = c) := by
      by_cases h0 : ByteArray.toList x = []
      · exact .inl h0
      · refine .inr ⟨h0, ?_, ?_, ?_⟩
        · cases hh : ByteArray.toList x with
          | nil => exact absurd hh h0
          | cons _ _ => rfl
        · rw [hxd]; exact (HLAW.out (by rw [← hxl]; exact h0)).1
        · have h2 := (HLAW.out (by rw [← hxl]; exact h0)).2
          rw [← hxl, ← hyl] at h2
          by_cases e : a = b
          · exact ⟨true, by simpa using h2.2 e, by simpa using e⟩
          · exact ⟨false, by simpa using fun h => e (h2.1 h), by simpa using e⟩
    have HCK := Lib.hid (show ∀ W, Calls Tryd.prog 8 #[.string x] W fun e w' => e = .returned (.int .i64 (checkV x.data.toList)) ∧ Below W.heap.size W w' from fun W => check_all x W)
    generalize checkV x.data.toList = z at HCK hcase
    clear hx hy hxl hyl hxd HLAW hbig ht ha hb
    rcases hcase with h0 | ⟨h0, h1, rfl, c, hxy, hab⟩
    · go_enter Tryd.func5, Tryd.ntmps5
      go_wp2_with fail
      refine HX.out.mono ?_
      rintro e w1 ⟨rfl, hb1⟩
      have HB1 := Lib.hid hb1
      clear hb1
      go_wp2_with fail
      refine (HY.out _ (HT.out.below HB1.out)).mono ?_
      rintro e w2 ⟨rfl, hb2⟩
      have HB2 := Lib.hid (HB1.out.trans (hb2.mono HB1.out.size))
      clear hb2 HB1
      go_wp2_with fail
      refine (known_name _ (HT.out.below HB2.out)).mono ?_
      rintro e w3 ⟨rfl, hb3⟩
      go_wp2_with fail
      go_ret
      exact ⟨rfl, HB2.out.trans (hb3.mono HB2.out.size)⟩
    · cases c
      all_goals
        go_enter Tryd.func5, Tryd.ntmps5
        go_wp2_with fail
        refine HX.out.mono ?_
        rintro e w1 ⟨rfl, hb1⟩
        have HB1 := Lib.hid hb1
        clear hb1
        go_wp2_with fail
        refine (HY.out _ (HT.out.below HB1.out)).mono ?_
        rintro e w2 ⟨rfl, hb2⟩
        have HB2 := Lib.hid (HB1.out.trans (hb2.mono HB1.out.size))
        clear hb2 HB1
        go_wp2_with fail
        refine (HCK.out _).mono ?_
        rintro e w3 ⟨rfl, hb3⟩
        have HB3 := Lib.hid (HB2.out.trans (hb3.mono HB2.out.size))
        clear hb3 HB2
        go_wp2_with fail
        refine (known_name _ (HT.out.below HB3.out)).mono ?_
        rintro e w4 ⟨rfl, hb4⟩
        go_wp2_with fail
        go_ret
        exact ⟨rfl, HB3.out.trans (hb4.mono HB3.out.size)⟩
end Go.Proofs.YtlpmndljjdljmaaDoor.By
