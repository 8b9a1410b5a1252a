/-
  WALKS of layer 6: container/heap's up, down, Push, Pop, Remove over the pile. WALK of layer 6: container/heap's down over the pile.
-/
import Derived.Test.YtlfgnoicjogfpaaQo
namespace Go.Proofs.Ytlfgnoicjogfpaa.Qu
open Go.RowKit Go.Maps
open Mem Hp

theorem m_len (a : Addr) (w : World) : (method 182 157 (.pointer (some a)) "Len").run Try.prog w = .ok (136, .pointer (some a)) w := by kernel_rfl
theorem m_less (a : Addr) (w : World) : (method 182 157 (.pointer (some a)) "Less").run Try.prog w = .ok (190, .pointer (some a)) w := by kernel_rfl
theorem m_swap (a : Addr) (w : World) : (method 182 157 (.pointer (some a)) "Swap").run Try.prog w = .ok (193, .pointer (some a)) w := by kernel_rfl
theorem m_push (a : Addr) (w : World) : (method 182 157 (.pointer (some a)) "Push").run Try.prog w = .ok (192, .pointer (some a)) w := by kernel_rfl
theorem m_pop (a : Addr) (w : World) : (method 182 157 (.pointer (some a)) "Pop").run Try.prog w = .ok (191, .pointer (some a)) w := by kernel_rfl

/-- What up leaves. -/
def UpPost (w : World) (p : Nat) (U : Nat → Prop) (N n : Nat) (f : Nat → It) (e : Ending) (w' : World) : Prop :=
  e = .returned (.tuple #[]) ∧ ∃ g, Heap n g ∧ Same n f g ∧ Pile w' p U N N g ∧ Tn U w w'

set_option maxHeartbeats 4000000 in
set_option maxRecDepth 100000 in
theorem up_any (w : World) (p : Nat) (U : Nat → Prop) (N n : Nat) (f : Nat → It) (h : Pile w p U N N f) (j : Nat) (hj : j < n) (hnN : n ≤ N) (hn : N ≤ 1000) (hu : UInv n f j) :
    Calls Try.prog 164 #[.iface 157 (.pointer (some ⟨p, 0, none⟩)), .int .i64 j] w (UpPost w p U N n f) := by
  have HP := Lib.hid h
  have HU := Lib.hid hu
  clear h hu
  have m1 := m_less
  have m2 := m_swap
  go_enter Try.func164, Try.ntmps164
  go_wp2_with fail
  go_loopw [1] (fun v wr => ∃ (k : Nat) (g : Nat → It), k < n ∧ v = .int .i64 k ∧ Hid (UInv n g k) ∧ Hid (Same n f g) ∧ Hid (Pile wr p U N N g) ∧ Hid (Tn U w wr)) (fun v _ => (intOf v).toNat)
  case atStart => exact ⟨j, f, hj, rfl, HU, Lib.hid (Same.refl n f), HP, Lib.hid (Tn.refl U w)⟩
  case round =>
    obtain ⟨k, g, hk, rfl, HI, HS, HB, HT⟩ := hrel
    clear hj HU HP
    by_cases h0 : k = 0
    · subst h0
      have HH := Lib.hid (up_stop0 HI.out)
      clear HI
      go_wp2_with fail
      go_end0
      exact ⟨rfl, g, HH.out, HS.out, HB.out, HT.out⟩
    · obtain ⟨i, hi⟩ : ∃ i, (k - 1) / 2 = i := ⟨_, rfl⟩
      have E1 : ((k : Int) - 1) / 2 = (i : Int) := by omega
      have hne : ((i : Int) == (k : Int)) = false := by simp; omega
      have hin : i < n := by omega
      have hik : i < k := by omega
      have HL := Lib.hid (less_any wr p U N N g HB.out k i (by omega) (by omega))
      cases ha : fore (g k) (g i) with
      | false =>
        have HH := Lib.hid (up_stop HI.out (by rw [hi]; exact ha))
        rw [ha] at HL
        clear hi ha HI h0
        go_wp2_with fail
        refine HL.out.mono ?_
        rintro e w1 ⟨rfl, hb⟩
        have HB1 := Lib.hid (HB.out.below hb)
        have HT1 := Lib.hid (HT.out.andThen (Tn.of_below hb))
        clear hb
        go_wp2_with fail
        go_end0
        exact ⟨rfl, g, HH.out, HS.out, HB1.out, HT1.out⟩
      | true =>
        have HH : Hid (UInv n (swp g i k) i) := Lib.hid (by
          have := up_step HI.out hk (by omega) (by rw [hi]; exact ha)
          rwa [hi] at this)
        have HS1 := Lib.hid (HS.out.trans (same_swp g hin hk))
        rw [ha] at HL
        clear hi ha HI h0
        go_wp2_with fail
        refine HL.out.mono ?_
        rintro e w1 ⟨rfl, hb⟩
        have HB1 := Lib.hid (HB.out.below hb)
        have HT1 := Lib.hid (HT.out.andThen (Tn.of_below hb))
        clear hb HL
        go_wp2_with fail
        refine (swap_any w1 p U N g HB1.out i k (by omega) (by omega)).mono ?_
        rintro e w2 ⟨rfl, hp2, ht2⟩
        have HB2 := Lib.hid hp2
        have HT2 := Lib.hid (HT1.out.andThen ht2)
        clear hp2 ht2
        go_wp2_with fail
        go_roundw
        case rel => exact ⟨i, _, hin, rfl, HH, HS1, HB2, HT2⟩
        case measure => simp [intOf]; omega
end Go.Proofs.Ytlfgnoicjogfpaa.Qu

namespace Go.Proofs.Ytlfgnoicjogfpaa.Qu
open Go.RowKit Go.Maps
open Mem Hp

/-- What down leaves. -/
def DownPost (w : World) (p : Nat) (U : Nat → Prop) (n m i0 : Nat) (f : Nat → It) (e : Ending) (w' : World) : Prop :=
  ∃ (i : Nat) (g : Nat → It), e = .returned (.bool (decide (i0 < i))) ∧ i0 ≤ i ∧ DEnd m g i i0 ∧ Same m f g ∧ Pile w' p U n n g ∧ Tn U w w'

set_option maxHeartbeats 8000000 in
set_option maxRecDepth 100000 in
theorem down_any (w : World) (p : Nat) (U : Nat → Prop) (n m : Nat) (f : Nat → It) (h : Pile w p U n n f) (i0 : Nat) (hmn : m ≤ n) (hn : n ≤ 1000) (hi0 : i0 ≤ 1000) (hd : DInv m f i0 i0) :
    Calls Try.prog 163 #[.iface 157 (.pointer (some ⟨p, 0, none⟩)), .int .i64 i0, .int .i64 m] w (DownPost w p U n m i0 f) := by
  have HP := Lib.hid h
  have HD := Lib.hid hd
  clear h hd
  have m1 := m_less
  have m2 := m_swap
  go_enter Try.func163, Try.ntmps163
  go_wp2_with fail
  go_loopw [7] (fun v wr => ∃ (k : Nat) (g : Nat → It), i0 ≤ k ∧ k ≤ 1000 ∧ v = .int .i64 k ∧ Hid (DInv m g k i0) ∧ Hid (Same m f g) ∧ Hid (Pile wr p U n n g) ∧ Hid (Tn U w wr)) (fun v _ => 1000 - (intOf v).toNat)
  case atStart => exact ⟨i0, f, Nat.le_refl _, hi0, rfl, HD, Lib.hid (Same.refl m f), HP, Lib.hid (Tn.refl U w)⟩
  case round =>
    obtain ⟨k, g, hk0, hk, rfl, HI, HS, HB, HT⟩ := hrel
    clear HD HP
    obtain ⟨j1, hj1⟩ : ∃ j1, 2 * k + 1 = j1 := ⟨_, rfl⟩
    have E1 : 2 * (k : Int) + 1 = (j1 : Int) := by omega
    by_cases hA : m ≤ j1
    · have HE := Lib.hid (down_stop1 HI.out (by omega))
      clear HI hj1
      go_wp2_with fail
      go_ret
      exact ⟨k, g, rfl, hk0, HE.out, HS.out, HB.out, HT.out⟩
    · obtain ⟨j2, hj2⟩ : ∃ j2, j1 + 1 = j2 := ⟨_, rfl⟩
      have E2 : (j1 : Int) + 1 = (j2 : Int) := by omega
      have hj1m : j1 < m := by omega
      have hkj1 : k < j1 := by omega
      have hj10 : ¬ (j1 : Int) < 0 := by omega
      clear hA
      by_cases hB : m ≤ j2
      · have HM : Hid (Min m g k j1) := Lib.hid (by subst hj1; exact min_left (by omega) (fun h => by omega))
        have hdec : ¬ (j2 : Int) < (m : Int) := by omega
        clear hB
        cases hb : fore (g j1) (g k) with
        | false =>
          have HE := Lib.hid (down_stop2 HI.out HM.out hb)
          have HL2 := Lib.hid (fun W hW => less_any W p U n n g hW j1 k (by omega) (by omega))
          rw [hb] at HL2
          clear hb HI HM hj1 hj2
          go_wp2_with fail
          refine (HL2.out _ HB.out).mono ?_
          rintro e w2 ⟨rfl, hb2⟩
          have HB2 := Lib.hid (HB.out.below hb2)
          have HT2 := Lib.hid (HT.out.andThen (Tn.of_below hb2))
          clear hb2
          go_wp2_with fail
          go_ret
          exact ⟨k, g, rfl, hk0, HE.out, HS.out, HB2.out, HT2.out⟩
        | true =>
          have HE := Lib.hid (down_step HI.out hk0 HM.out hb)
          have HS1 := Lib.hid (HS.out.trans (same_swp g (i := k) (j := j1) (by omega) (by omega)))
          have HL2 := Lib.hid (fun W hW => less_any W p U n n g hW j1 k (by omega) (by omega))
          rw [hb] at HL2
          have hkn : k < n := by omega
          have hjn : j1 < n := by omega
          have hkJ : k < j1 := by omega
          clear hb HI HM hj1 hj2
          go_wp2_with fail
          refine (HL2.out _ HB.out).mono ?_
          rintro e w2 ⟨rfl, hb2⟩
          have HB2 := Lib.hid (HB.out.below hb2)
          have HT2 := Lib.hid (HT.out.andThen (Tn.of_below hb2))
          clear hb2 HL2
          go_wp2_with fail
          refine (swap_any w2 p U n g HB2.out k j1 hkn hjn).mono ?_
          rintro e w3 ⟨rfl, hp3, ht3⟩
          have HB3 := Lib.hid hp3
          have HT3 := Lib.hid (HT2.out.andThen ht3)
          clear hp3 ht3
          go_wp2_with fail
          go_roundw
          case rel => exact ⟨j1, _, by omega, by omega, rfl, HE, HS1, HB3, HT3⟩
          case measure => simp [intOf]; omega
      · have hj2m : j2 < m := by omega
        have hn1 : j1 < n := by omega
        have hn2 : j2 < n := by omega
        clear hB
        have HL1 := Lib.hid (less_any wr p U n n g HB.out j2 j1 hn2 hn1)
        cases ha : fore (g j2) (g j1) with
        | false =>
          have HM : Hid (Min m g k j1) := Lib.hid (by subst hj2; subst hj1; exact min_left (by omega) (fun _ => ha))
          rw [ha] at HL1
          clear ha
          cases hb : fore (g j1) (g k) with
          | false =>
            have HE := Lib.hid (down_stop2 HI.out HM.out hb)
            have HL2 := Lib.hid (fun W hW => less_any W p U n n g hW j1 k (by omega) (by omega))
            rw [hb] at HL2
            clear hb HI HM hj1 hj2
            go_wp2_with fail
            refine HL1.out.mono ?_
            rintro e w1 ⟨rfl, hb1⟩
            have HB1 := Lib.hid (HB.out.below hb1)
            have HT1 := Lib.hid (HT.out.andThen (Tn.of_below hb1))
            clear hb1 HL1
            go_wp2_with fail
            refine (HL2.out _ HB1.out).mono ?_
            rintro e w2 ⟨rfl, hb2⟩
            have HB2 := Lib.hid (HB1.out.below hb2)
            have HT2 := Lib.hid (HT1.out.andThen (Tn.of_below hb2))
            clear hb2
            go_wp2_with fail
            go_ret
            exact ⟨k, g, rfl, hk0, HE.out, HS.out, HB2.out, HT2.out⟩
          | true =>
            have HE := Lib.hid (down_step HI.out hk0 HM.out hb)
            have HS1 := Lib.hid (HS.out.trans (same_swp g (i := k) (j := j1) (by omega) (by omega)))
            have HL2 := Lib.hid (fun W hW => less_any W p U n n g hW j1 k (by omega) (by omega))
            rw [hb] at HL2
            have hkn : k < n := by omega
            have hjn : j1 < n := by omega
            have hkJ : k < j1 := by omega
            clear hb HI HM hj1 hj2
            go_wp2_with fail
            refine HL1.out.mono ?_
            rintro e w1 ⟨rfl, hb1⟩
            have HB1 := Lib.hid (HB.out.below hb1)
            have HT1 := Lib.hid (HT.out.andThen (Tn.of_below hb1))
            clear hb1 HL1
            go_wp2_with fail
            refine (HL2.out _ HB1.out).mono ?_
            rintro e w2 ⟨rfl, hb2⟩
            have HB2 := Lib.hid (HB1.out.below hb2)
            have HT2 := Lib.hid (HT1.out.andThen (Tn.of_below hb2))
            clear hb2 HL2
            go_wp2_with fail
            refine (swap_any w2 p U n g HB2.out k j1 hkn hjn).mono ?_
            rintro e w3 ⟨rfl, hp3, ht3⟩
            have HB3 := Lib.hid hp3
            have HT3 := Lib.hid (HT2.out.andThen ht3)
            clear hp3 ht3
            go_wp2_with fail
            go_roundw
            case rel => exact ⟨j1, _, by omega, by omega, rfl, HE, HS1, HB3, HT3⟩
            case measure => simp [intOf]; omega
        | true =>
          have HM : Hid (Min m g k j2) := Lib.hid (by subst hj2; subst hj1; exact min_right (by omega) ha)
          rw [ha] at HL1
          clear ha
          cases hb : fore (g j2) (g k) with
          | false =>
            have HE := Lib.hid (down_stop2 HI.out HM.out hb)
            have HL2 := Lib.hid (fun W hW => less_any W p U n n g hW j2 k (by omega) (by omega))
            rw [hb] at HL2
            clear hb HI HM hj1 hj2
            go_wp2_with fail
            refine HL1.out.mono ?_
            rintro e w1 ⟨rfl, hb1⟩
            have HB1 := Lib.hid (HB.out.below hb1)
            have HT1 := Lib.hid (HT.out.andThen (Tn.of_below hb1))
            clear hb1 HL1
            go_wp2_with fail
            refine (HL2.out _ HB1.out).mono ?_
            rintro e w2 ⟨rfl, hb2⟩
            have HB2 := Lib.hid (HB1.out.below hb2)
            have HT2 := Lib.hid (HT1.out.andThen (Tn.of_below hb2))
            clear hb2
            go_wp2_with fail
            go_ret
            exact ⟨k, g, rfl, hk0, HE.out, HS.out, HB2.out, HT2.out⟩
          | true =>
            have HE := Lib.hid (down_step HI.out hk0 HM.out hb)
            have HS1 := Lib.hid (HS.out.trans (same_swp g (i := k) (j := j2) (by omega) (by omega)))
            have HL2 := Lib.hid (fun W hW => less_any W p U n n g hW j2 k (by omega) (by omega))
            rw [hb] at HL2
            have hkn : k < n := by omega
            have hjn : j2 < n := by omega
            have hkJ : k < j2 := by omega
            clear hb HI HM hj1 hj2
            go_wp2_with fail
            refine HL1.out.mono ?_
            rintro e w1 ⟨rfl, hb1⟩
            have HB1 := Lib.hid (HB.out.below hb1)
            have HT1 := Lib.hid (HT.out.andThen (Tn.of_below hb1))
            clear hb1 HL1
            go_wp2_with fail
            refine (HL2.out _ HB1.out).mono ?_
            rintro e w2 ⟨rfl, hb2⟩
            have HB2 := Lib.hid (HB1.out.below hb2)
            have HT2 := Lib.hid (HT1.out.andThen (Tn.of_below hb2))
            clear hb2 HL2
            go_wp2_with fail
            refine (swap_any w2 p U n g HB2.out k j2 hkn hjn).mono ?_
            rintro e w3 ⟨rfl, hp3, ht3⟩
            have HB3 := Lib.hid hp3
            have HT3 := Lib.hid (HT2.out.andThen ht3)
            clear hp3 ht3
            go_wp2_with fail
            go_roundw
            case rel => exact ⟨j2, _, by omega, by omega, rfl, HE, HS1, HB3, HT3⟩
            case measure => simp [intOf]; omega
end Go.Proofs.Ytlfgnoicjogfpaa.Qu
