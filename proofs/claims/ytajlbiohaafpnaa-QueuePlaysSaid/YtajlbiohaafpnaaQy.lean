/-
  WALKS of layer 6: container/heap's up, down, Push, Pop, Remove over the pile.
-/
import Derived.Test.YtajlbiohaafpnaaQo
namespace Go.Proofs.Ytajlbiohaafpnaa.Qu
open Go.RowKit Go.Maps
open Mem Hp

theorem m_len (a : Addr) (w : World) : (method 182 44 (.pointer (some a)) "Len").run Try.prog w = .ok (23, .pointer (some a)) w := by kernel_rfl
theorem m_less (a : Addr) (w : World) : (method 182 44 (.pointer (some a)) "Less").run Try.prog w = .ok (42, .pointer (some a)) w := by kernel_rfl
theorem m_swap (a : Addr) (w : World) : (method 182 44 (.pointer (some a)) "Swap").run Try.prog w = .ok (45, .pointer (some a)) w := by kernel_rfl
theorem m_push (a : Addr) (w : World) : (method 182 44 (.pointer (some a)) "Push").run Try.prog w = .ok (44, .pointer (some a)) w := by kernel_rfl
theorem m_pop (a : Addr) (w : World) : (method 182 44 (.pointer (some a)) "Pop").run Try.prog w = .ok (43, .pointer (some a)) w := by kernel_rfl

/-- What up leaves. -/
def UpPost (w : World) (p : Nat) (U : Nat → Prop) (N n : Nat) (f : Nat → It) (e : Ending) (w' : World) : Prop :=
  e = .returned (.tuple #[]) ∧ ∃ g, Heap n g ∧ Same n f g ∧ Pile w' p U N N g ∧ Tn U w w'

set_option maxHeartbeats 4000000 in
set_option maxRecDepth 100000 in
theorem up_any (w : World) (p : Nat) (U : Nat → Prop) (N n : Nat) (f : Nat → It) (h : Pile w p U N N f) (j : Nat) (hj : j < n) (hnN : n ≤ N) (hn : N ≤ 1000) (hu : UInv n f j) :
    Calls Try.prog 24 #[.iface 44 (.pointer (some ⟨p, 0, none⟩)), .int .i64 j] w (UpPost w p U N n f) := by
  have HP := Lib.hid h
  have HU := Lib.hid hu
  clear h hu
  have m1 := m_less
  have m2 := m_swap
  go_enter Try.func24, Try.ntmps24
  go_wp2_with fail
  go_loopw [1] (fun v wr => ∃ (k : Nat) (g : Nat → It), k < n ∧ v = .int .i64 k ∧ Hid (UInv n g k) ∧ Hid (Same n f g) ∧ Hid (Pile wr p U N N g) ∧ Hid (Tn U w wr)) (fun v _ => (intOf v).toNat)
  case atStart => exact ⟨j, f, hj, rfl, HU, Lib.hid (Same.refl n f), HP, Lib.hid (Tn.refl U w)⟩
  case round =>
    obtain ⟨k, g, hk, rfl, HI, HS, HB, HT⟩ := hrel
    clear hj HU HP
    by_cases h0 : k = 0
    · subst h0
      have HH := Lib.hid (up_stop0 HI.out)
      clear HI
      go_wp2_with fail
      go_end0
      exact ⟨rfl, g, HH.out, HS.out, HB.out, HT.out⟩
    · obtain ⟨i, hi⟩ : ∃ i, (k - 1) / 2 = i := ⟨_, rfl⟩
      have E1 : ((k : Int) - 1) / 2 = (i : Int) := by omega
      have hne : ((i : Int) == (k : Int)) = false := by simp; omega
      have hin : i < n := by omega
      have hik : i < k := by omega
      have HL := Lib.hid (less_any wr p U N N g HB.out k i (by omega) (by omega))
      cases ha : fore (g k) (g i) with
      | false =>
        have HH := Lib.hid (up_stop HI.out (by rw [hi]; exact ha))
        rw [ha] at HL
        clear hi ha HI h0
        go_wp2_with fail
        refine HL.out.mono ?_
        rintro e w1 ⟨rfl, hb⟩
        have HB1 := Lib.hid (HB.out.below hb)
        have HT1 := Lib.hid (HT.out.andThen (Tn.of_below hb))
        clear hb
        go_wp2_with fail
        go_end0
        exact ⟨rfl, g, HH.out, HS.out, HB1.out, HT1.out⟩
      | true =>
        have HH : Hid (UInv n (swp g i k) i) := Lib.hid (by
          have := up_step HI.out hk (by omega) (by rw [hi]; exact ha)
          rwa [hi] at this)
        have HS1 := Lib.hid (HS.out.trans (same_swp g hin hk))
        rw [ha] at HL
        clear hi ha HI h0
        go_wp2_with fail
        refine HL.out.mono ?_
        rintro e w1 ⟨rfl, hb⟩
        have HB1 := Lib.hid (HB.out.below hb)
        have HT1 := Lib.hid (HT.out.andThen (Tn.of_below hb))
        clear hb HL
        go_wp2_with fail
        refine (swap_any w1 p U N g HB1.out i k (by omega) (by omega)).mono ?_
        rintro e w2 ⟨rfl, hp2, ht2⟩
        have HB2 := Lib.hid hp2
        have HT2 := Lib.hid (HT1.out.andThen ht2)
        clear hp2 ht2
        go_wp2_with fail
        go_roundw
        case rel => exact ⟨i, _, hin, rfl, HH, HS1, HB2, HT2⟩
        case measure => simp [intOf]; omega
end Go.Proofs.Ytajlbiohaafpnaa.Qu
