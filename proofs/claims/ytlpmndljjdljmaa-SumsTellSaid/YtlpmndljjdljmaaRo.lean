/-
  WALK: the document's own Open of sealed bytes: the error that it answers, and the bytes.
-/
import Derived.Test.YtlpmndljjdljmaaOn
namespace Go.Proofs.Ytlpmndljjdljmaa.By
open Go.ChangeShapes Go.WideShapes Go.ChangeAt Go.RowKit
open Mem Sm

theorem bytes_ne {l m : List UInt8} (h : ¬ l = m) : ((⟨l.toArray⟩ : ByteArray).toList == (⟨m.toArray⟩ : ByteArray).toList) = false := by
  rw [ByteArray.toList_eq, ByteArray.toList_eq]
  simp [h]

set_option linter.unusedSimpArgs false in
set_option maxHeartbeats 4000000 in
theorem ropen_ok (w : World) (l : List UInt8) (v : Value) (h : SlV w w.heap.size v (u8s l)) (hl : ¬ l.length < 4) (hm : l.length ≤ 1000000) (ht : tailOK l = true) :
    Calls Try.prog 19 #[v] w (Opens w l) := by
  have HV := Lib.hid (text_of h)
  have HSV := Lib.hid h
  rcases h.form with ⟨A, c, rfl⟩
  rcases h.inv with ⟨_, h0, _, _⟩ | ⟨ad, rfl, _, hc, hcm, hr⟩
  · rw [u8s_length] at h0; omega
  rw [u8s_length] at hc
  obtain ⟨n, hn⟩ : ∃ n, l.length = n + 4 := ⟨l.length - 4, by omega⟩
  have HX := Lib.hid (show SlV w w.heap.size (.slice (some ad) n c) (u8s (l.take n)) from by
    have h1 : u8s (l.take n) = (u8s l).take n := by simp [u8s, List.map_take]
    have h2 := SlV.at_ ad c (u8s (l.take n)) (by rw [u8s_length, List.length_take]; omega) hcm (by rw [h1]; exact hr.take n)
    rwa [u8s_length, List.length_take, Nat.min_eq_left (by omega)] at h2)
  have HXL := Lib.hid (show (l.take n).length ≤ 1000000 by rw [List.length_take]; omega)
  have HTK := Lib.hid (show l.take (l.length - 4) = l.take n by rw [hn, Nat.add_sub_cancel])
  have HRES := Lib.hid (openE_ok l hl ht)
  have hq := seal_back l (by omega)
  rw [ht, HTK.out] at hq
  obtain ⟨T, hT⟩ : ∃ T : ByteArray, (⟨l.toArray⟩ : ByteArray) = T := ⟨_, rfl⟩
  have hU : (⟨(sealB (l.take n)).toArray⟩ : ByteArray) = T := by
    rw [← hT, hq.mpr rfl]
  have hnc : n ≤ c := by omega
  unfold maxLen at hcm
  rw [hT] at HV
  rw [u8s_length] at HV HSV ⊢
  rw [hn] at hc hm HV HSV ⊢
  have MK := Lib.hid (show ∀ w', Below w.heap.size w w' → ((convert 22 9 (.slice (some ad) (n + 4) c)).run Try.prog w' = .ok (.string T) w' ∧ Below w.heap.size w w') from fun w' hb => ⟨by rw [← hT]; exact text_of (HSV.out.below hb), hb⟩)
  have C23 := Lib.hid (show ∀ w', Below w.heap.size w w' → Calls Try.prog 23 #[.slice (some ad) n c] w' fun e w'' => ∃ v, e = .returned v ∧ (convert 22 9 v).run Try.prog w'' = .ok (.string T) w'' ∧ Below w.heap.size w w'' from fun w' hb => by
    refine (rseal_any w' (l.take n) (.slice (some ad) n c) ((HX.out.below hb).more hb.size) HXL.out).mono ?_
    rintro e w'' ⟨v, he, hown, hb2⟩
    exact ⟨v, he, by rw [← hU]; exact text_of (SlV.of_own hown), hb.trans (hb2.mono hb.size)⟩)
  clear h hr hl hn ht hq hT hU HSV HV
  go_enter Try.func19, Try.ntmps19
  go_wp2_with fail
  refine wp_region_noPanic ?_
  refine wp_region_held_drew (S := fun w' => (convert 22 9 (.slice (some ad) (n + 4) c)).run Try.prog w' = .ok (.string T) w' ∧ Below w.heap.size w w') (by kernel_rfl) ((MK.out _ (Below.refl _ _).drew)) (fun hHeld => ?_)
  refine wpAnyH_take (i := 0) rfl (by kernel_rfl) (by kernel_rfl) (by kernel_rfl) (fun _ _ _ h => h) (Or.inl ⟨by rfl, by intro W hSW; (try dsimp only at hSW); go_simp; try (with_reducible rfl)⟩) hHeld ?_
  try simp only [Act.put, List.getElem_toArray, List.getElem_cons_zero, List.getElem_cons_succ, List.setIfInBounds_toArray, List.set_cons_zero, List.set_cons_succ]
  refine wpAnyH_take (i := 1) rfl (by kernel_rfl) (by kernel_rfl) (by kernel_rfl) (fun _ _ _ h => h) (Or.inl ⟨by rfl, by intro W hSW; (try dsimp only at hSW); go_simp; try (with_reducible rfl)⟩) hHeld ?_
  try simp only [Act.put, List.getElem_toArray, List.getElem_cons_zero, List.getElem_cons_succ, List.setIfInBounds_toArray, List.set_cons_zero, List.set_cons_succ]
  refine wpAnyH_take (i := 2) rfl (by kernel_rfl) (by kernel_rfl) (by kernel_rfl) (fun _ _ _ h => h) (Or.inl ⟨by rfl, by intro W hSW; (try dsimp only at hSW); go_simp; try (with_reducible rfl)⟩) hHeld ?_
  try simp only [Act.put, List.getElem_toArray, List.getElem_cons_zero, List.getElem_cons_succ, List.setIfInBounds_toArray, List.set_cons_zero, List.set_cons_succ]
  refine wpAnyH_take (i := 5) rfl (by kernel_rfl) (by kernel_rfl) (by kernel_rfl) (fun _ _ _ h => h) (Or.inl ⟨by rfl, by intro W hSW; (try dsimp only at hSW); go_simp; try (with_reducible rfl)⟩) hHeld ?_
  try simp only [Act.put, List.getElem_toArray, List.getElem_cons_zero, List.getElem_cons_succ, List.setIfInBounds_toArray, List.set_cons_zero, List.set_cons_succ]
  refine wpAnyH_take (i := 6) rfl (by kernel_rfl) (by kernel_rfl) (by kernel_rfl) (fun _ _ _ h => h) (Or.inl ⟨by rfl, by intro W hSW; (try dsimp only at hSW); go_simp; try (with_reducible rfl)⟩) hHeld ?_
  try simp only [Act.put, List.getElem_toArray, List.getElem_cons_zero, List.getElem_cons_succ, List.setIfInBounds_toArray, List.set_cons_zero, List.set_cons_succ]
  refine wpAnyH_ready (rs := [3]) (by kernel_rfl) (by simp) ?_
  refine AllReadyH.cons rfl (fun K hK => ?_) AllReadyH.nil
  go_simp
  refine (C23.out _ hHeld.2).mono ?_; rintro e w4 ⟨v4, rfl, hc4, qb⟩
  try go_wp2_with fail
  refine hK.out _ _ (MK.out _ qb) ?_
  clear hK K hHeld
  intro hHeld
  clear qb
  try simp only [Act.put, List.getElem_toArray, List.getElem_cons_zero, List.getElem_cons_succ, List.setIfInBounds_toArray, List.set_cons_zero, List.set_cons_succ]
  refine wpAnyH_ready (rs := [4]) (by kernel_rfl) (by simp) ?_
  refine AllReadyH.cons rfl (fun K hK => ?_) AllReadyH.nil
  go_simp
  refine hK.out _ _ (hHeld) ?_
  clear hK K hHeld
  intro hHeld
  clear hc4
  try simp only [Act.put, List.getElem_toArray, List.getElem_cons_zero, List.getElem_cons_succ, List.setIfInBounds_toArray, List.set_cons_zero, List.set_cons_succ]
  refine wpAnyH_take (i := 7) rfl (by kernel_rfl) (by kernel_rfl) (by kernel_rfl) (fun _ _ _ h => h) (Or.inl ⟨by rfl, by intro W hSW; (try dsimp only at hSW); go_simp; try (with_reducible rfl)⟩) hHeld ?_
  try simp only [Act.put, List.getElem_toArray, List.getElem_cons_zero, List.getElem_cons_succ, List.setIfInBounds_toArray, List.set_cons_zero, List.set_cons_succ]
  refine wpAnyH_done (by kernel_rfl) ?_ _
  refine NoPanic.normal ?_
  go_wp2_with fail
  go_ret2
  refine ⟨.slice (some ad) n c, ?_, ?_, hHeld.2⟩
  · rw [HRES.out.1]; rfl
  · rw [HRES.out.2, HTK.out]; exact (HX.out.below hHeld.2).more hHeld.2.size

set_option linter.unusedSimpArgs false in
set_option maxHeartbeats 4000000 in
theorem ropen_bad (w : World) (l : List UInt8) (v : Value) (h : SlV w w.heap.size v (u8s l)) (hl : ¬ l.length < 4) (hm : l.length ≤ 1000000) (ht : tailOK l = false) :
    Calls Try.prog 19 #[v] w (Opens w l) := by
  have HV := Lib.hid (text_of h)
  have HSV := Lib.hid h
  rcases h.form with ⟨A, c, rfl⟩
  rcases h.inv with ⟨_, h0, _, _⟩ | ⟨ad, rfl, _, hc, hcm, hr⟩
  · rw [u8s_length] at h0; omega
  rw [u8s_length] at hc
  obtain ⟨n, hn⟩ : ∃ n, l.length = n + 4 := ⟨l.length - 4, by omega⟩
  have HX := Lib.hid (show SlV w w.heap.size (.slice (some ad) n c) (u8s (l.take n)) from by
    have h1 : u8s (l.take n) = (u8s l).take n := by simp [u8s, List.map_take]
    have h2 := SlV.at_ ad c (u8s (l.take n)) (by rw [u8s_length, List.length_take]; omega) hcm (by rw [h1]; exact hr.take n)
    rwa [u8s_length, List.length_take, Nat.min_eq_left (by omega)] at h2)
  have HXL := Lib.hid (show (l.take n).length ≤ 1000000 by rw [List.length_take]; omega)
  have HTK := Lib.hid (show l.take (l.length - 4) = l.take n by rw [hn, Nat.add_sub_cancel])
  have HRES := Lib.hid (openE_bad l hl ht)
  have hq := seal_back l (by omega)
  rw [ht, HTK.out] at hq
  obtain ⟨T, hT⟩ : ∃ T : ByteArray, (⟨l.toArray⟩ : ByteArray) = T := ⟨_, rfl⟩
  obtain ⟨U, hU⟩ : ∃ U : ByteArray, (⟨(sealB (l.take n)).toArray⟩ : ByteArray) = U := ⟨_, rfl⟩
  have hne : (U.toList == T.toList) = false := by
    rw [← hT, ← hU]
    exact bytes_ne (fun e => by simp [e] at hq)
  have hnc : n ≤ c := by omega
  unfold maxLen at hcm
  rw [hT] at HV
  rw [u8s_length] at HV HSV ⊢
  rw [hn] at hc hm HV HSV ⊢
  have MK := Lib.hid (show ∀ w', Below w.heap.size w w' → ((convert 22 9 (.slice (some ad) (n + 4) c)).run Try.prog w' = .ok (.string T) w' ∧ Below w.heap.size w w') from fun w' hb => ⟨by rw [← hT]; exact text_of (HSV.out.below hb), hb⟩)
  have C23 := Lib.hid (show ∀ w', Below w.heap.size w w' → Calls Try.prog 23 #[.slice (some ad) n c] w' fun e w'' => ∃ v, e = .returned v ∧ (convert 22 9 v).run Try.prog w'' = .ok (.string U) w'' ∧ Below w.heap.size w w'' from fun w' hb => by
    refine (rseal_any w' (l.take n) (.slice (some ad) n c) ((HX.out.below hb).more hb.size) HXL.out).mono ?_
    rintro e w'' ⟨v, he, hown, hb2⟩
    exact ⟨v, he, by rw [← hU]; exact text_of (SlV.of_own hown), hb.trans (hb2.mono hb.size)⟩)
  clear h hr hl hn ht hq hT hU HSV HV
  go_enter Try.func19, Try.ntmps19
  go_wp2_with fail
  refine wp_region_noPanic ?_
  refine wp_region_held_drew (S := fun w' => (convert 22 9 (.slice (some ad) (n + 4) c)).run Try.prog w' = .ok (.string T) w' ∧ Below w.heap.size w w') (by kernel_rfl) ((MK.out _ (Below.refl _ _).drew)) (fun hHeld => ?_)
  refine wpAnyH_take (i := 0) rfl (by kernel_rfl) (by kernel_rfl) (by kernel_rfl) (fun _ _ _ h => h) (Or.inl ⟨by rfl, by intro W hSW; (try dsimp only at hSW); go_simp; try (with_reducible rfl)⟩) hHeld ?_
  try simp only [Act.put, List.getElem_toArray, List.getElem_cons_zero, List.getElem_cons_succ, List.setIfInBounds_toArray, List.set_cons_zero, List.set_cons_succ]
  refine wpAnyH_take (i := 1) rfl (by kernel_rfl) (by kernel_rfl) (by kernel_rfl) (fun _ _ _ h => h) (Or.inl ⟨by rfl, by intro W hSW; (try dsimp only at hSW); go_simp; try (with_reducible rfl)⟩) hHeld ?_
  try simp only [Act.put, List.getElem_toArray, List.getElem_cons_zero, List.getElem_cons_succ, List.setIfInBounds_toArray, List.set_cons_zero, List.set_cons_succ]
  refine wpAnyH_take (i := 2) rfl (by kernel_rfl) (by kernel_rfl) (by kernel_rfl) (fun _ _ _ h => h) (Or.inl ⟨by rfl, by intro W hSW; (try dsimp only at hSW); go_simp; try (with_reducible rfl)⟩) hHeld ?_
  try simp only [Act.put, List.getElem_toArray, List.getElem_cons_zero, List.getElem_cons_succ, List.setIfInBounds_toArray, List.set_cons_zero, List.set_cons_succ]
  refine wpAnyH_take (i := 5) rfl (by kernel_rfl) (by kernel_rfl) (by kernel_rfl) (fun _ _ _ h => h) (Or.inl ⟨by rfl, by intro W hSW; (try dsimp only at hSW); go_simp; try (with_reducible rfl)⟩) hHeld ?_
  try simp only [Act.put, List.getElem_toArray, List.getElem_cons_zero, List.getElem_cons_succ, List.setIfInBounds_toArray, List.set_cons_zero, List.set_cons_succ]
  refine wpAnyH_take (i := 6) rfl (by kernel_rfl) (by kernel_rfl) (by kernel_rfl) (fun _ _ _ h => h) (Or.inl ⟨by rfl, by intro W hSW; (try dsimp only at hSW); go_simp; try (with_reducible rfl)⟩) hHeld ?_
  try simp only [Act.put, List.getElem_toArray, List.getElem_cons_zero, List.getElem_cons_succ, List.setIfInBounds_toArray, List.set_cons_zero, List.set_cons_succ]
  refine wpAnyH_ready (rs := [3]) (by kernel_rfl) (by simp) ?_
  refine AllReadyH.cons rfl (fun K hK => ?_) AllReadyH.nil
  go_simp
  refine (C23.out _ hHeld.2).mono ?_; rintro e w4 ⟨v4, rfl, hc4, qb⟩
  try go_wp2_with fail
  refine hK.out _ _ (MK.out _ qb) ?_
  clear hK K hHeld
  intro hHeld
  clear qb
  try simp only [Act.put, List.getElem_toArray, List.getElem_cons_zero, List.getElem_cons_succ, List.setIfInBounds_toArray, List.set_cons_zero, List.set_cons_succ]
  refine wpAnyH_ready (rs := [4]) (by kernel_rfl) (by simp) ?_
  refine AllReadyH.cons rfl (fun K hK => ?_) AllReadyH.nil
  go_simp
  refine hK.out _ _ (hHeld) ?_
  clear hK K hHeld
  intro hHeld
  clear hc4
  try simp only [Act.put, List.getElem_toArray, List.getElem_cons_zero, List.getElem_cons_succ, List.setIfInBounds_toArray, List.set_cons_zero, List.set_cons_succ]
  refine wpAnyH_take (i := 7) rfl (by kernel_rfl) (by kernel_rfl) (by kernel_rfl) (fun _ _ _ h => h) (Or.inl ⟨by rfl, by intro W hSW; (try dsimp only at hSW); go_simp; try (with_reducible rfl)⟩) hHeld ?_
  try simp only [Act.put, List.getElem_toArray, List.getElem_cons_zero, List.getElem_cons_succ, List.setIfInBounds_toArray, List.set_cons_zero, List.set_cons_succ]
  refine wpAnyH_done (by kernel_rfl) ?_ _
  refine NoPanic.normal ?_
  go_wp2_with fail
  go_ret2
  refine ⟨.slice none 0 0, ?_, ?_, hHeld.2⟩
  · rw [HRES.out.1]; rfl
  · rw [HRES.out.2]; exact .nil

theorem ropen_any (w : World) (l : List UInt8) (v : Value) (h : SlV w w.heap.size v (u8s l)) (hm : l.length ≤ 1000000) :
    Calls Try.prog 19 #[v] w (Opens w l) := by
  by_cases hl : l.length < 4
  · exact ropen_short w l v h hl
  · cases ht : tailOK l with
    | true => exact ropen_ok w l v h hl hm ht
    | false => exact ropen_bad w l v h hl hm ht

theorem open_any (w : World) (l : List UInt8) (v : Value) (h : SlV w w.heap.size v (u8s l)) (hm : l.length ≤ 1000000) :
    Calls Try.prog 18 #[v] w (Opens w l) := by
  by_cases hl : l.length < 4
  · exact open_short w l v h hl
  · exact open_long w l v h hl hm
end Go.Proofs.Ytlpmndljjdljmaa.By
