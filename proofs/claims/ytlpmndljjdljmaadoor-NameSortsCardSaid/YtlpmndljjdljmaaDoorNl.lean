/-
  WALK: known of layer 4's laws: it answers true; what was there stays.
-/
import Derived.Test.YtlpmndljjdljmaaDoorNk
namespace Go.Proofs.YtlpmndljjdljmaaDoor.By
open Go.RowKit
open Mem Nam

theorem k_sort : sortV [[98], [65], [97], [98]] = [[97], [98]] := by
  refine rising_eq (sort_rises _) (by decide +kernel) fun x => ?_
  rw [mem_sort]
  have h1 : odd [98] = false := by decide +kernel
  have h2 : odd [65] = true := by decide +kernel
  have h3 : odd [97] = false := by decide +kernel
  constructor
  · rintro ⟨hx, ho⟩
    simp only [List.mem_cons, List.not_mem_nil, or_false] at hx
    rcases hx with rfl | rfl | rfl | rfl
    · simp
    · rw [h2] at ho; cases ho
    · simp
    · simp
  · intro hx
    simp only [List.mem_cons, List.not_mem_nil, or_false] at hx
    rcases hx with rfl | rfl
    · exact ⟨by simp, h3⟩
    · exact ⟨by simp, h1⟩

theorem k_join : joinV 2 [109, 97, 105, 110] = [109, 97, 105, 110, 46, 102, 50] := by
  have hg : glued 2 [109, 97, 105, 110] = [109, 97, 105, 110, 46, 102, 50] := by
    unfold glued Lib.itoa
    rw [if_neg (by decide), show (2 : Int).toNat = 2 from rfl, Lib.decDigits_one (by omega)]
    rfl
  unfold joinV
  rw [hg, if_pos ⟨by decide, by decide +kernel⟩]

theorem k_nojoin : joinV (-1) [97] = [] := by
  unfold joinV
  rw [if_neg (by omega)]

theorem k_check (l : List UInt8) (s : ByteArray) (z : Int) (hs : s.data.toList = l) (h : checkV l = z) (w : World) :
    Calls Tryd.prog 8 #[.string s] w fun e w' => e = .returned (.int .i64 z) ∧ Below w.heap.size w w' := by
  have := check_all s w
  rw [hs, h] at this
  exact this

set_option maxHeartbeats 2000000 in
theorem known_name (w : World) (ht : Tab w) : Calls Tryd.prog 7 #[] w fun e w' => e = .returned (.bool true) ∧ Below w.heap.size w w' := by
  have HTAB := Lib.hid ht
  have HS := Lib.hid (show Calls Tryd.prog 15 #[.slice (some ⟨w.heap.size, 0, none⟩) 4 4] (w.alloc (.cells #[.string ⟨#[98]⟩, .string ⟨#[65]⟩, .string ⟨#[97]⟩, .string ⟨#[98]⟩] 9)) (TextsAre (w.alloc (.cells #[.string ⟨#[98]⟩, .string ⟨#[65]⟩, .string ⟨#[97]⟩, .string ⟨#[98]⟩] 9)) [[97], [98]]) from by
    have h := sort_any (w.alloc (.cells (strs [[98], [65], [97], [98]]).toArray 9)) _ _ [[98], [65], [97], [98]] (SlV.new w (strs [[98], [65], [97], [98]]) 9 (by simp [strs, maxLen])) (by simp)
    rw [k_sort] at h
    exact h)
  have HB0 := Lib.hid (show Below w.heap.size w (w.alloc (.cells #[.string ⟨#[98]⟩, .string ⟨#[65]⟩, .string ⟨#[97]⟩, .string ⟨#[98]⟩] 9)) from (Below.refl _ _).alloc (Nat.le_refl _) _)
  have HC1 := Lib.hid (k_check [109, 97, 105, 110] ⟨#[109, 97, 105, 110]⟩ 0 rfl (by decide +kernel))
  have HC2 := Lib.hid (k_check [49, 97] ⟨#[49, 97]⟩ 7 rfl (by decide +kernel))
  have HC3 := Lib.hid (k_check [97, 98, 99, 100, 101, 102, 103, 104, 105, 106, 107, 108, 109, 110, 111, 112, 113, 114, 115, 116, 117, 118, 119, 120, 121] ⟨#[97, 98, 99, 100, 101, 102, 103, 104, 105, 106, 107, 108, 109, 110, 111, 112, 113, 114, 115, 116, 117, 118, 119, 120, 121]⟩ 6 rfl (by decide +kernel))
  clear ht
  go_enter Tryd.func7, Tryd.ntmps7
  go_wp2_with fail
  refine HS.out.mono ?_
  rintro e w1 ⟨v1, rfl, hv1, hb1⟩
  have HV1 := Lib.hid hv1
  have HB1 := Lib.hid (HB0.out.trans (hb1.mono HB0.out.size))
  clear hv1 hb1 HS HB0
  go_wp2_with fail
  refine (HC1.out _).mono ?_
  rintro e w2 ⟨rfl, hb2⟩
  have HB2 := Lib.hid (HB1.out.trans (hb2.mono HB1.out.size))
  have HV2 := Lib.hid ((HV1.out.below hb2).more hb2.size)
  clear hb2 HB1 HV1
  go_wp2_with fail
  refine (HC2.out _).mono ?_
  rintro e w3 ⟨rfl, hb3⟩
  have HB3 := Lib.hid (HB2.out.trans (hb3.mono HB2.out.size))
  have HV3 := Lib.hid ((HV2.out.below hb3).more hb3.size)
  clear hb3 HB2 HV2
  go_wp2_with fail
  refine (HC3.out _).mono ?_
  rintro e w4 ⟨rfl, hb4⟩
  have HB4 := Lib.hid (HB3.out.trans (hb4.mono HB3.out.size))
  have hv4 := (HV3.out.below hb4).more hb4.size
  obtain ⟨A, c, rfl⟩ := hv4.form
  have HV4 := Lib.hid hv4
  rcases hv4.inv with ⟨_, h0, _, _⟩ | ⟨ad, rfl, _, hc, hm, hr⟩
  · simp [strs] at h0
  have hx0 := hr.at_ (j := 0) (by simp [strs])
  rw [show (strs [[97], [98]])[0] = .string ⟨#[97]⟩ from rfl, show ad.add 0 = ad from rfl] at hx0
  rw [show (strs [[97], [98]]).length = 2 from rfl] at hc HV4 ⊢
  unfold maxLen at hm
  clear hb4 HB3 HV3 hv4 hr
  have HF := Lib.hid (find_any w4 _ _ [[97], [98]] ⟨#[98]⟩ HV4.out (by simp))
  rw [show idxV [[97], [98]] (ByteArray.data ⟨#[98]⟩).toList = 1 from by decide +kernel] at HF
  go_wp2_with fail
  refine HF.out.mono ?_
  rintro e w5 ⟨rfl, q5, hw5⟩
  have HB5 := Lib.hid (show Below w.heap.size w w5 by rw [hw5]; exact below_drewN HB4.out q5)
  clear hw5 HB4 HF HV4 hx0
  have HJ := Lib.hid (join_any 2 ⟨#[109, 97, 105, 110]⟩ (by omega) (by omega) (by decide) w5 (HTAB.out.below HB5.out))
  rw [show (ByteArray.data ⟨#[109, 97, 105, 110]⟩).toList = [109, 97, 105, 110] from rfl, k_join] at HJ
  go_wp2_with fail
  refine HJ.out.mono ?_
  rintro e w6 ⟨rfl, hb6⟩
  have HB6 := Lib.hid (HB5.out.trans (hb6.mono HB5.out.size))
  clear hb6 HB5 HJ
  have HJ := Lib.hid (join_any (-1) ⟨#[97]⟩ (by omega) (by omega) (by decide) w6 (HTAB.out.below HB6.out))
  rw [show (ByteArray.data ⟨#[97]⟩).toList = [97] from rfl, k_nojoin] at HJ
  go_wp2_with fail
  refine HJ.out.mono ?_
  rintro e w7 ⟨rfl, hb7⟩
  have HB7 := Lib.hid (HB6.out.trans (hb7.mono HB6.out.size))
  clear hb7 HB6 HJ
  go_wp2_with fail
  go_ret
  exact ⟨rfl, HB7.out⟩
end Go.Proofs.YtlpmndljjdljmaaDoor.By
