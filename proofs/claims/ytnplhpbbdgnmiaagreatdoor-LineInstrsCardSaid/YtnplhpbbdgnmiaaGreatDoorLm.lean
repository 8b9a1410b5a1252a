/-
  WALKS of layer 9: the document's Number, walked.
-/
import Derived.Test.YtnplhpbbdgnmiaaGreatDoorLk
namespace Go.Proofs.YtnplhpbbdgnmiaaGreatDoor.Ln
open Go.RowKit
open Mem Go.Lib

theorem frm_le (s : ByteArray) : frm s ≤ 1 := by unfold frm; split <;> omega

set_option maxRecDepth 100000 in
set_option maxHeartbeats 2000000 in
theorem rnumber_any (s : ByteArray) (w : World) (hs : s.size ≤ 1000000) : Calls Tryz.prog 8 #[.string s] w (NAns s w) := by
  by_cases h1 : s.size < 1
  · have HF := Lib.hid (numV_no (s := s) fun v hv hd => by have := (dec_facts hv hd).1; omega)
    have h1' : (s.size : Int) < 1 := by omega
    go_enter Tryz.func8, Tryz.ntmps8
    go_wp2_with fail
    go_ret2
    exact ⟨by rw [HF.out]; rfl, Below.refl _ _⟩
  by_cases h2 : 20 < s.size
  · have HF := Lib.hid (numV_no (s := s) fun v hv hd => by have := (dec_facts hv hd).2.1; omega)
    have h1' : ¬ (s.size : Int) < 1 := by omega
    have h2' : (20 : Int) < (s.size : Int) := by omega
    go_enter Tryz.func8, Tryz.ntmps8
    go_wp2_with fail
    go_ret2
    exact ⟨by rw [HF.out]; rfl, Below.refl _ _⟩
  have hsz : 0 < s.size := by omega
  have h1' : ¬ (s.size : Int) < 1 := by omega
  have h2' : ¬ (20 : Int) < (s.size : Int) := by omega
  have hszI : (0 : Int) < (s.size : Int) := by omega
  have HI := Lib.hid (show ∀ i, i < s.size → (s[i]?).isSome = true from fun i hi => by simp [hi])
  clear HI
  obtain ⟨f, hf⟩ : ∃ f, frm s = f := ⟨_, rfl⟩
  have hf1 : f ≤ 1 := by rw [← hf]; exact frm_le s
  have hq : (f = 1 ∧ (((s[0]'hsz).toNat : Int) == 45) = true ∧ Hid (at_ s 0 = 45)) ∨ (f = 0 ∧ (((s[0]'hsz).toNat : Int) == 45) = false ∧ Hid (at_ s 0 ≠ 45)) := by
    by_cases ha : at_ s 0 = 45
    · exact .inl ⟨by rw [← hf, frm, if_pos ha], eq_true (by rw [at_sk s 0 hsz] at ha; omega), Lib.hid ha⟩
    · exact .inr ⟨by rw [← hf, frm, if_neg ha], eq_false (by rw [at_sk s 0 hsz] at ha; omega), Lib.hid ha⟩
  have HFM := Lib.hid hf
  clear hf hs
  go_enter Tryz.func8, Tryz.ntmps8
  rcases hq with ⟨rfl, hq, HA⟩ | ⟨rfl, hq, HA⟩
  · go_wp2_with fail
    go_loopw [4, 6] (fun nv i wr => ∃ (k : Nat) (nn : Int), 1 ≤ k ∧ k ≤ s.size ∧ i = .int .i64 k ∧ nv = .int .i64 nn ∧ Hid (NSt s k nn) ∧ Hid (w = wr)) (fun _ i _ => s.size - (intOf i).toNat)
    case atStart => exact ⟨1, 0, by omega, by omega, rfl, rfl, Lib.hid ⟨⟨by omega, by omega⟩, fun v _ _ => by rw [HFM.out]; rfl⟩, Lib.hid rfl⟩
    case round =>
      obtain ⟨k, nn, hk0, hk, rfl, rfl, HN, HW⟩ := hrel
      by_cases hlt : k < s.size
      · have hks' : (k : Int) < (s.size : Int) := by omega
        have hat := at_sk s k hlt
        obtain ⟨c, hc⟩ : ∃ c, at_ s k = c := ⟨_, rfl⟩
        by_cases hd : 48 ≤ c ∧ c ≤ 57
        · have hN2 := HN.out.next (by rw [HFM.out]; exact hk0) hlt
          rw [hat] at hN2
          rw [hc] at hat
          have HN2 := Lib.hid hN2
          have hc0 : ¬ (((s[k]'hlt).toNat : Int) < 48) := by rw [← hat]; omega
          have hc1 : ¬ ((57 : Int) < ((s[k]'hlt).toNat : Int)) := by rw [← hat]; omega
          have hc2 : (((s[k]'hlt).toNat : Int) - 48) % 256 = (c : Int) - 48 := by rw [← hat]; omega
          have hc0' : ¬ ((s[k]'hlt).toNat < 48) := by rw [← hat]; omega
          have hc1' : ¬ (57 < (s[k]'hlt).toNat) := by rw [← hat]; omega
          clear hd hat hc
          go_wp2_with fail
          go_roundw
          case rel => exact ⟨k + 1, _, by omega, by omega, by go_num, rfl, HN2, HW⟩
          case measure => simp [intOf]; omega
        · have HF := Lib.hid (numV_no (s := s) fun v hv hs => by
            obtain ⟨_, _, _, f4, _⟩ := dec_facts hv hs
            have hbl : (body s).length = s.size - frm s := by rw [body, List.length_drop, len_list]
            have hfr := HFM.out
            have hj : k - frm s < (body s).length := by omega
            have h3 := digit_iff.1 (f4 _ (List.getElem_mem hj))
            have hget : (body s)[k - frm s] = s.data.toList[k]'(by rw [len_list]; exact hlt) := by
              simp only [body, List.getElem_drop]
              congr 1; omega
            rw [hget, ← at_get s k hlt, hc] at h3
            exact hd h3)
          rw [hc] at hat
          by_cases hlo : c < 48
          · have hc0 : ((s[k]'hlt).toNat : Int) < 48 := by rw [← hat]; omega
            have hc0' : (s[k]'hlt).toNat < 48 := by rw [← hat]; omega
            clear hd hat hc
            go_wp2_with fail
            go_ret2
            exact ⟨by rw [HF.out]; rfl, by rw [← HW.out]; exact Below.refl _ _⟩
          · have hc0 : ¬ ((s[k]'hlt).toNat : Int) < 48 := by rw [← hat]; omega
            have hc1 : (57 : Int) < ((s[k]'hlt).toNat : Int) := by rw [← hat]; omega
            have hc0' : ¬ (s[k]'hlt).toNat < 48 := by rw [← hat]; omega
            have hc1' : 57 < (s[k]'hlt).toNat := by rw [← hat]; omega
            clear hd hat hc
            go_wp2_with fail
            go_ret2
            exact ⟨by rw [HF.out]; rfl, by rw [← HW.out]; exact Below.refl _ _⟩
      · obtain rfl : k = s.size := by omega
        have hfin : ∀ v, I64 v → decB v = s → nn = v := fun v hv hs => by
          have h3 := HN.out.final hv hs
          rw [if_pos HA.out] at h3
          exact h3
        have hi64 : I64 (nn) := HN.out.1
        obtain ⟨r, hr⟩ : ∃ r, nn = r := ⟨_, rfl⟩
        rw [hr] at hfin hi64
        have HFIN := Lib.hid hfin
        have HI := Lib.hid hi64
        clear hfin hi64
        subst hr
        go_wp2_with fail
        refine (rdigits_any nn HI.out.1 HI.out.2 _).mono ?_
        rintro e w2 ⟨rfl, hb⟩
        have HB := Lib.hid (show Below w.heap.size w w2 by have h := hb; rw [← HW.out] at h; exact h)
        clear hb
        by_cases hd : decB nn = s
        · have HF := Lib.hid (numV_yes HI.out hd)
          have hq3 : (ByteArray.toList (decB nn) == ByteArray.toList s) = true := by rw [hd]; simp
          clear hd
          go_wp2_with fail
          go_ret2
          exact ⟨by rw [HF.out]; rfl, HB.out⟩
        · have HF := Lib.hid (numV_no (s := s) fun v hv hs => by
            have := HFIN.out v hv hs
            subst this
            exact hd hs)
          have hq3 : (ByteArray.toList (decB nn) == ByteArray.toList s) = false := by
            rw [beq_eq_false_iff_ne, ByteArray.toList_eq, ByteArray.toList_eq]
            exact fun e => hd (ba_ext e)
          have hq4 : (ByteArray.toList (decB nn) != ByteArray.toList s) = true := by unfold bne; rw [hq3]; rfl
          clear hd
          go_wp2_with fail
          go_ret2
          exact ⟨by rw [HF.out]; rfl, HB.out⟩
  · go_wp2_with fail
    go_loopw [4, 6] (fun nv i wr => ∃ (k : Nat) (nn : Int), 0 ≤ k ∧ k ≤ s.size ∧ i = .int .i64 k ∧ nv = .int .i64 nn ∧ Hid (NSt s k nn) ∧ Hid (w = wr)) (fun _ i _ => s.size - (intOf i).toNat)
    case atStart => exact ⟨0, 0, by omega, by omega, rfl, rfl, Lib.hid ⟨⟨by omega, by omega⟩, fun v _ _ => by rw [HFM.out]; rfl⟩, Lib.hid rfl⟩
    case round =>
      obtain ⟨k, nn, hk0, hk, rfl, rfl, HN, HW⟩ := hrel
      by_cases hlt : k < s.size
      · have hks' : (k : Int) < (s.size : Int) := by omega
        have hat := at_sk s k hlt
        obtain ⟨c, hc⟩ : ∃ c, at_ s k = c := ⟨_, rfl⟩
        by_cases hd : 48 ≤ c ∧ c ≤ 57
        · have hN2 := HN.out.next (by rw [HFM.out]; exact hk0) hlt
          rw [hat] at hN2
          rw [hc] at hat
          have HN2 := Lib.hid hN2
          have hc0 : ¬ (((s[k]'hlt).toNat : Int) < 48) := by rw [← hat]; omega
          have hc1 : ¬ ((57 : Int) < ((s[k]'hlt).toNat : Int)) := by rw [← hat]; omega
          have hc2 : (((s[k]'hlt).toNat : Int) - 48) % 256 = (c : Int) - 48 := by rw [← hat]; omega
          have hc0' : ¬ ((s[k]'hlt).toNat < 48) := by rw [← hat]; omega
          have hc1' : ¬ (57 < (s[k]'hlt).toNat) := by rw [← hat]; omega
          clear hd hat hc
          go_wp2_with fail
          go_roundw
          case rel => exact ⟨k + 1, _, by omega, by omega, by go_num, rfl, HN2, HW⟩
          case measure => simp [intOf]; omega
        · have HF := Lib.hid (numV_no (s := s) fun v hv hs => by
            obtain ⟨_, _, _, f4, _⟩ := dec_facts hv hs
            have hbl : (body s).length = s.size - frm s := by rw [body, List.length_drop, len_list]
            have hfr := HFM.out
            have hj : k - frm s < (body s).length := by omega
            have h3 := digit_iff.1 (f4 _ (List.getElem_mem hj))
            have hget : (body s)[k - frm s] = s.data.toList[k]'(by rw [len_list]; exact hlt) := by
              simp only [body, List.getElem_drop]
              congr 1; omega
            rw [hget, ← at_get s k hlt, hc] at h3
            exact hd h3)
          rw [hc] at hat
          by_cases hlo : c < 48
          · have hc0 : ((s[k]'hlt).toNat : Int) < 48 := by rw [← hat]; omega
            have hc0' : (s[k]'hlt).toNat < 48 := by rw [← hat]; omega
            clear hd hat hc
            go_wp2_with fail
            go_ret2
            exact ⟨by rw [HF.out]; rfl, by rw [← HW.out]; exact Below.refl _ _⟩
          · have hc0 : ¬ ((s[k]'hlt).toNat : Int) < 48 := by rw [← hat]; omega
            have hc1 : (57 : Int) < ((s[k]'hlt).toNat : Int) := by rw [← hat]; omega
            have hc0' : ¬ (s[k]'hlt).toNat < 48 := by rw [← hat]; omega
            have hc1' : 57 < (s[k]'hlt).toNat := by rw [← hat]; omega
            clear hd hat hc
            go_wp2_with fail
            go_ret2
            exact ⟨by rw [HF.out]; rfl, by rw [← HW.out]; exact Below.refl _ _⟩
      · obtain rfl : k = s.size := by omega
        have hfin : ∀ v, I64 v → decB v = s → wrap64 (-nn) = v := fun v hv hs => by
          have h3 := HN.out.final hv hs
          rw [if_neg HA.out] at h3
          exact h3
        have hi64 : I64 (wrap64 (-nn)) := wr_i64 _
        obtain ⟨r, hr⟩ : ∃ r, wrap64 (-nn) = r := ⟨_, rfl⟩
        rw [hr] at hfin hi64
        have HFIN := Lib.hid hfin
        have HI := Lib.hid hi64
        clear hfin hi64
        go_wp2_with fail
        refine (rdigits_any r HI.out.1 HI.out.2 _).mono ?_
        rintro e w2 ⟨rfl, hb⟩
        have HB := Lib.hid (show Below w.heap.size w w2 by have h := hb; rw [← HW.out] at h; exact h)
        clear hb
        by_cases hd : decB r = s
        · have HF := Lib.hid (numV_yes HI.out hd)
          have hq3 : (ByteArray.toList (decB r) == ByteArray.toList s) = true := by rw [hd]; simp
          clear hd
          go_wp2_with fail
          go_ret2
          exact ⟨by rw [HF.out]; rfl, HB.out⟩
        · have HF := Lib.hid (numV_no (s := s) fun v hv hs => by
            have := HFIN.out v hv hs
            subst this
            exact hd hs)
          have hq3 : (ByteArray.toList (decB r) == ByteArray.toList s) = false := by
            rw [beq_eq_false_iff_ne, ByteArray.toList_eq, ByteArray.toList_eq]
            exact fun e => hd (ba_ext e)
          have hq4 : (ByteArray.toList (decB r) != ByteArray.toList s) = true := by unfold bne; rw [hq3]; rfl
          clear hd
          go_wp2_with fail
          go_ret2
          exact ⟨by rw [HF.out]; rfl, HB.out⟩
end Go.Proofs.YtnplhpbbdgnmiaaGreatDoor.Ln
