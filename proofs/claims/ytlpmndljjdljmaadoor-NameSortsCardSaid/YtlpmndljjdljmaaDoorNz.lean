/-
  WALK: the law NameSorts, of what came in.
-/
import Derived.Test.YtlpmndljjdljmaaDoorNy
import Derived.WalkLawsBesides
import Derived.IntWalk
namespace Go.Proofs.YtlpmndljjdljmaaDoor.By
open Go.RowKit
open Mem Nam

theorem sort_again (l : List Bs) : sortV (sortV l) = sortV l := by
  refine rising_eq (sort_rises _) (sort_rises l) fun x => ?_
  rw [mem_sort, mem_sort]
  constructor
  · exact fun h => h.1
  · exact fun h => ⟨h, h.2⟩

theorem sort_turned (l : List Bs) : sortV l.reverse = sortV l := by
  refine rising_eq (sort_rises _) (sort_rises l) fun x => ?_
  rw [mem_sort, mem_sort, List.mem_reverse]

theorem sort_len (l : List Bs) : (sortV l).length ≤ l.length := by
  unfold sortV
  refine Nat.le_trans (compact_len _) ?_
  rw [List.length_mergeSort]
  exact names_len l

/-- Each text of a list that came in, as the walk reads it. -/
theorem read_at {w : World} {B : Nat} {A : Option Addr} {n c : Nat} {l : List Bs} (h : SlV w B (.slice A n c) (strs l)) (j : Nat) (hj : j < l.length) : ∃ ad, A = some ad ∧ l.length ≤ c ∧ c ≤ maxLen ∧ ad.block < B ∧ w.cell? (ad.add j) = some (.string ⟨l[j].toArray⟩) := by
  rcases h.inv with ⟨_, _, _, h0⟩ | ⟨ad, e, hn, h2, hm, hr⟩
  · have := strs_length l
    rw [h0] at this
    simp at this; omega
  · rw [strs_length] at hn
    have := hr j (.string ⟨l[j].toArray⟩) (by simp [strs, hj])
    exact ⟨ad, e, by omega, hm, this.1, this.2⟩

set_option maxHeartbeats 8000000 in
theorem sorts_any (w : World) (l : List Bs) (A : Option Addr) (c : Nat) (at_ : Int) (h : SlV w w.heap.size (.slice A l.length c) (strs l)) (ht : Tab w) :
    Calls Tryd.prog 4 #[.slice A l.length c, .int .i64 at_] w fun e w' => e = .returned (.bool true) ∧ Below w.heap.size w w' := by
  have HT := Lib.hid ht
  have HV := Lib.hid h
  have HFEW := Lib.hid (few_any w _ _ l h)
  cases hfb : fewB l
  · rw [hfb] at HFEW
    clear hfb ht h HV
    generalize l.length = n at HFEW ⊢
    go_enter Tryd.func4, Tryd.ntmps4
    go_wp2_with fail
    refine HFEW.out.mono ?_
    rintro e w1 ⟨rfl, q, hw1⟩
    have HB := Lib.hid (show Below w.heap.size w w1 by rw [hw1]; exact below_drewN (Below.refl _ _) q)
    clear hw1
    go_wp2_with fail
    refine (known_name _ (HT.out.below HB.out)).mono ?_
    rintro e w2 ⟨rfl, hb⟩
    go_wp2_with fail
    go_ret
    exact ⟨rfl, HB.out.trans (hb.mono HB.out.size)⟩
  · obtain ⟨hx, hl⟩ := few_of hfb
    rw [hfb] at HFEW
    have HX := Lib.hid hx
    obtain ⟨n, hn⟩ : ∃ n, l.length = n := ⟨_, rfl⟩
    have HN := Lib.hid hn
    rw [hn] at hl HFEW HV ⊢
    obtain ⟨R, hR⟩ : ∃ R, sortV l = R := ⟨_, rfl⟩
    have HR := Lib.hid hR
    have hrl : R.length ≤ 60 := by rw [← hR]; have := sort_len l; omega
    clear hfb ht h hx hn hR
    go_enter Tryd.func4, Tryd.ntmps4
    go_wp2_with fail
    refine HFEW.out.mono ?_
    rintro e w1 ⟨rfl, q, hw1⟩
    have HB1 := Lib.hid (show Below w.heap.size w w1 by rw [hw1]; exact below_drewN (Below.refl _ _) q)
    have hc := sort_any w1 _ _ l (HV.out.below HB1.out) (by have := HN.out; omega)
    rw [HR.out] at hc
    have HC := Lib.hid hc
    clear hw1 hc HFEW
    go_wp2_with fail
    refine HC.out.mono ?_
    rintro e w2 ⟨v2, rfl, hv2, hb2⟩
    obtain ⟨A2, c2, rfl⟩ := hv2.form
    have HV2 := Lib.hid hv2
    have HB2 := Lib.hid (HB1.out.trans (hb2.mono HB1.out.size))
    clear hv2 hb2 HC HB1
    rw [strs_length] at HV2 ⊢
    obtain ⟨r, hr⟩ : ∃ r, R.length = r := ⟨_, rfl⟩
    have HRL := Lib.hid hr
    rw [hr] at hrl HV2 ⊢
    clear hr
    go_wp2_with fail
    go_loopw [6] (fun vi wr => ∃ k q : Nat, 1 ≤ k ∧ k ≤ 61 ∧ vi = .int .i64 k ∧ wr = w2.drewN q) (fun vi _ => 61 - (intOf vi).toNat)
    case atStart => exact ⟨1, 0, by omega, by omega, rfl, rfl⟩
    case round =>
      obtain ⟨k, q, hk1, hk2, rfl, rfl⟩ := hrel
      by_cases hlt : k < r
      · obtain ⟨j, rfl⟩ : ∃ j, k = j + 1 := ⟨k - 1, by omega⟩
        have hjl : j < R.length := by have := HRL.out; omega
        have hkl : j + 1 < R.length := by have := HRL.out; omega
        obtain ⟨ad, rfl, hnc, hcm, _, hx0⟩ := read_at HV2.out j hjl
        obtain ⟨ad', e', _, _, _, hx1⟩ := read_at HV2.out (j + 1) hkl
        injection e' with e'
        subst e'
        rw [HRL.out] at hnc
        unfold maxLen at hcm
        have hlt2 : R[j] < R[j + 1] := List.pairwise_iff_getElem.1 (by rw [← HR.out]; exact sort_rises l) j (j + 1) hjl hkl (by omega)
        have hls : Op.bytesLess (ByteArray.toList ⟨R[j].toArray⟩) (ByteArray.toList ⟨R[j + 1].toArray⟩) = true := by rw [text_list, text_list, bytesLess_eq]; simpa using hlt2
        generalize (⟨R[j].toArray⟩ : ByteArray) = t0 at hx0 hls
        generalize (⟨R[j + 1].toArray⟩ : ByteArray) = t1 at hx1 hls
        have hx2 : w2.cell? ⟨ad.block, ad.off + (j + 1), none⟩ = some (.string t1) := by simpa [Addr.add] using hx1
        have hwj : IntKind.i64.wrap (j : Int) = j := IntWalk.i64_in _ (by omega)
        have hj0 : (0 : Int) ≤ j := by omega
        have hj1 : (j : Int) < r := by omega
        have hj2 : j < r := by omega
        have hj3 : (j : Int) + 1 < r := by omega
        have hj4 : (0 : Int) ≤ (j : Int) + 1 := by omega
        have hj5 : ((j : Int) + 1).toNat = j + 1 := by omega
        clear hlt2 hjl hkl
        go_wp2_with fail
        go_quiet (fail)
        clear hwj hj5
        go_wp2_with fail
        go_roundw
        case rel => exact ⟨j + 1 + 1, q + nq, by omega, by omega, by go_num, by first | rfl | exact World.drewN_drewN ..⟩
        case measure => simp [intOf]; omega
      · have HBq := Lib.hid (below_drewN HB2.out q)
        have HVq := Lib.hid (show SlV (w2.drewN q) (w2.drewN q).heap.size (.slice A2 r c2) (strs R) from HV2.out.keep fun _ _ => rfl)
        obtain ⟨w3, hw3⟩ : ∃ w3, w2.drewN q = w3 := ⟨_, rfl⟩
        rw [hw3] at HBq HVq ⊢
        clear hw3 HB2 HV2
        obtain ⟨i0, hi0, hz0, hz1, hz2⟩ := info_parts info9
        have HO0 := Lib.hid (World.ownsRow_nil w3 w3.heap.size 9 1)
        go_wp2_with fail
        go_loopw [7, 8] (fun v vi wr => ∃ k : Nat, k ≤ n ∧ vi = .int .i64 k ∧ Hid (wr.ownsRow w3.heap.size 9 1 v k (strs (l.reverse.take k))) ∧ Hid (Below w3.heap.size w3 wr)) (fun _ vi _ => n - (intOf vi).toNat)
        case atStart => exact ⟨0, by omega, rfl, HO0, Lib.hid (Below.refl _ _)⟩
        case round =>
          obtain ⟨k, hk, rfl, HO, HB⟩ := hrel
          by_cases hlt2 : k < n
          · have hnl := HN.out
            have hjl : n - 1 - k < l.length := by omega
            obtain ⟨ad, rfl, hnc, hcm, hbl, hx0⟩ := read_at HV.out (n - 1 - k) hjl
            rw [hnl] at hnc
            unfold maxLen at hcm
            have hx := (HBq.out.trans (HB.out.mono HBq.out.size)).cell (p := ad.add (n - 1 - k)) (by rw [add_block]; exact hbl) |>.trans hx0
            have hrv : l.reverse.take (k + 1) = l.reverse.take k ++ [l[n - 1 - k]] := by
              rw [List.take_succ_eq_append_getElem (by rw [List.length_reverse]; omega), List.getElem_reverse]
              simp only [hnl]
            have HRV := Lib.hid hrv
            obtain ⟨t, ht⟩ : ∃ t : ByteArray, (⟨l[n - 1 - k].toArray⟩ : ByteArray) = t := ⟨_, rfl⟩
            obtain ⟨y, hy⟩ : ∃ y, l[n - 1 - k] = y := ⟨_, rfl⟩
            rw [hy] at ht HRV
            rw [hy, ht] at hx
            have HTT := Lib.hid ht
            have hidx : ((n : Int) - 1 - k) = ((n - 1 - k : Nat) : Int) := by omega
            clear hx0 hrv ht hy hjl hnl hbl
            generalize hz : n - 1 - k = z at hx hidx
            have hzn : z < n := by omega
            have HLK := Lib.hid (show (strs (l.reverse.take k)).length = k by rw [strs_length, List.length_take, List.length_reverse, HN.out]; omega)
            have HOA := Lib.hid (show (wr.alloc (.cells #[.string t] 9)).ownsRow w3.heap.size 9 1 u7 (strs (l.reverse.take k)).length (strs (l.reverse.take k)) by rw [HLK.out]; exact HO.out.alloc _)
            have hsz3 : w3.heap.size ≤ (wr.alloc (.cells #[.string t] 9)).heap.size := by have := HBq.out.size; have := HB.out.size; simp; omega
            have HBW := Lib.hid (HB.out.alloc HB.out.size (.cells #[.string t] 9))
            have HSRC := Lib.hid (show SlV (wr.alloc (.cells #[.string t] 9)) (wr.heap.size + 1) (.slice (some ⟨wr.heap.size, 0, none⟩) 1 1) (strs [y]) from by
              have := SlV.new wr (strs [y]) 9 (by simp [strs, maxLen])
              rw [show (strs [y]).toArray = #[.string t] by simp [strs, HTT.out]] at this
              exact this)
            have c2' : (strs (l.reverse.take k)).length + (strs [y]).length ≤ maxLen := by rw [HLK.out, strs_length]; unfold maxLen; simp; omega
            have c3' : ((strs (l.reverse.take k)).length + (strs [y]).length) * 16 ≤ 140737488355328 := by rw [HLK.out, strs_length]; simp; omega
            have HEND := Lib.hid (show strs (l.reverse.take k) ++ strs [y] = strs (l.reverse.take (k + 1)) by rw [HRV.out, strs_append])
            have HLEN := Lib.hid (show (strs (l.reverse.take k) ++ strs [y]).length = k + 1 by rw [List.length_append, HLK.out, strs_length]; rfl)
            have hz0' : (0 : Int) ≤ (z : Int) := by omega
            clear hz
            go_wp2_with (at_builtin; go_must (refine Mem.wpList_append_slv _ rfl (.tmp 37) (.tmp 46) _ rfl w3.heap.size 9 i0 (.string ByteArray.empty) 16 Tryd.underlying22 hi0 hz0 hz1 hz2 rfl u7 _ rfl HOA.out (wr.heap.size + 1) (.slice (some ⟨wr.heap.size, 0, none⟩) 1 1) (strs [y]) rfl HSRC.out (strs_one _) c2' c3' hsz3 ?_); intro v4 w4 hown4 hg4; rw [HLEN.out, HEND.out] at hown4; have HO4 := Lib.hid hown4; have HG4 := Lib.hid hg4; clear hown4 hg4)
            have HB4 := Lib.hid (HBW.out.grown HG4.out hsz3 (fun q hq => (HOA.out.lt q hq).1))
            go_roundw
            case rel => exact ⟨k + 1, by omega, by go_num, HO4, HB4⟩
            case measure => simp [intOf]; omega
          · obtain rfl : k = n := by omega
            rw [List.take_of_length_le (by rw [List.length_reverse, HN.out]; omega)] at HO
            have HB3 := Lib.hid (HBq.out.trans (HB.out.mono HBq.out.size))
            have HVT := Lib.hid (SlV.of_own HO.out)
            have HVA := Lib.hid ((HVq.out.below HB.out).more HB.out.size)
            have HVL := Lib.hid (HV.out.below HB3.out)
            clear HO HB HBq HVq HV HO0
            have CS1 := Lib.hid (show ∀ W, Below wr.heap.size wr W → Calls Tryd.prog 15 #[.slice A2 r c2] W (TextsAre W R) from fun W hb => by
              have := sort_any W wr.heap.size _ R (HVA.out.below hb) (by have := HRL.out; omega)
              rw [show sortV R = R by rw [← HR.out, sort_again]] at this
              exact this)
            have CS2 := Lib.hid (show ∀ W, Below wr.heap.size wr W → Calls Tryd.prog 15 #[u7] W (TextsAre W R) from fun W hb => by
              have := sort_any W wr.heap.size _ l.reverse (HVT.out.below hb) (by rw [List.length_reverse, HN.out]; omega)
              rw [sort_turned, HR.out] at this
              exact this)
            have CT := Lib.hid (show ∀ W x, SlV W W.heap.size x (strs R) → Below wr.heap.size wr W → Calls Tryd.prog 14 #[x, .slice A2 r c2] W fun e w' => e = .returned (.bool true) ∧ ∃ n, w' = W.drewN n from fun W x hx hb => texts_same W _ wr.heap.size x _ R hx (HVA.out.below hb) (by have := HRL.out; omega))
            by_cases hin : 0 ≤ at_ ∧ at_ < (k : Int)
            · obtain ⟨p, rfl⟩ := Int.eq_ofNat_of_zero_le hin.1
              have hpl : p < l.length := by rw [HN.out]; omega
              obtain ⟨ad, rfl, hnc, hcm, _, hx⟩ := read_at HVL.out p hpl
              rw [HN.out] at hnc
              unfold maxLen at hcm
              obtain ⟨t, ht⟩ : ∃ t : ByteArray, (⟨l[p].toArray⟩ : ByteArray) = t := ⟨_, rfl⟩
              have htl : t.data.toList = l[p] := by rw [← ht]
              have HCK := Lib.hid (show ∀ W, Calls Tryd.prog 8 #[.string t] W fun e w' => e = .returned (.int .i64 (checkV l[p])) ∧ Below W.heap.size W w' from fun W => by
                have := check_all t W
                rw [htl] at this
                exact this)
              have HFD := Lib.hid (show ∀ W, Below wr.heap.size wr W → Calls Tryd.prog 12 #[.slice A2 r c2, .string t] W fun e w' => e = .returned (.int .i64 (idxV R l[p])) ∧ ∃ n, w' = W.drewN n from fun W hb => by
                have := find_any W wr.heap.size _ R t (HVA.out.below hb) (by have := HRL.out; omega)
                rw [htl] at this
                exact this)
              have hcase : (checkV l[p] == 0) = false ∨ (checkV l[p] = 0 ∧ 0 ≤ idxV R l[p]) := by
                by_cases h0 : checkV l[p] = 0
                · refine .inr ⟨h0, ?_⟩
                  have hm : l[p] ∈ R := by rw [← HR.out, mem_sort]; exact ⟨List.getElem_mem hpl, by unfold odd; simp [h0]⟩
                  by_cases hneg : idxV R l[p] < 0
                  · exact absurd hm ((idx_neg R l[p]).1 hneg)
                  · omega
                · exact .inl (by simpa using h0)
              rw [ht] at hx
              have hd0 : decide ((0 : Int) ≤ p) = true := by simp
              have hd1 : decide ((p : Int) < k) = true := by simp; omega
              have hpk : p < k := by omega
              have hx' : ∀ W, Below wr.heap.size wr W → W.cell? (ad.add p) = some (.string t) := fun W hb => (hb.cell (p := ad.add p) (World.block_lt_of_cell? wr _ hx)).trans hx
              have HXW := Lib.hid hx'
              generalize checkV l[p] = cv at HCK hcase
              generalize idxV R l[p] = iv at HFD hcase
              clear htl ht hpl hin hx'
              rcases hcase with hcv | ⟨rfl, hiv⟩
              · go_wp2_with fail
                refine (HCK.out _).mono ?_
                rintro e z1 ⟨rfl, hz1'⟩
                have HBz := Lib.hid hz1'
                clear hz1' hx
                go_wp2_with fail
                refine (CS1.out _ HBz.out).mono ?_
                rintro e y1 ⟨x1, rfl, hx1, hc1⟩
                have HD1 := Lib.hid (HBz.out.trans (hc1.mono HBz.out.size))
                have CT1 := Lib.hid (CT.out y1 x1 hx1 HD1.out)
                clear hx1 hc1 HBz
                go_wp2_with fail
                refine CT1.out.mono ?_
                rintro e y2 ⟨rfl, q2, hy2⟩
                have HD2 := Lib.hid (show Below wr.heap.size wr y2 by rw [hy2]; exact below_drewN HD1.out q2)
                clear hy2 HD1 CT1
                go_wp2_with fail
                refine (CS2.out _ HD2.out).mono ?_
                rintro e y3 ⟨x3, rfl, hx3, hc3⟩
                have HD3 := Lib.hid (HD2.out.trans (hc3.mono HD2.out.size))
                have CT3 := Lib.hid (CT.out y3 x3 hx3 HD3.out)
                clear hx3 hc3 HD2
                go_wp2_with fail
                refine CT3.out.mono ?_
                rintro e y4 ⟨rfl, q4, hy4⟩
                have HD4 := Lib.hid (HB3.out.trans ((show Below wr.heap.size wr y4 by rw [hy4]; exact below_drewN HD3.out q4).mono HB3.out.size))
                clear hy4 HD3 CT3
                go_wp2_with fail
                refine (known_name _ (HT.out.below HD4.out)).mono ?_
                rintro e y5 ⟨rfl, hb5⟩
                go_wp2_with fail
                go_ret
                exact ⟨rfl, HD4.out.trans (hb5.mono HD4.out.size)⟩
              · have hd3 : decide (iv < 0) = false := by simp; omega
                go_wp2_with fail
                refine (HCK.out _).mono ?_
                rintro e z1 ⟨rfl, hz1'⟩
                have HB1z := Lib.hid hz1'
                have hxz := HXW.out z1 hz1'
                clear hz1' hx
                go_wp2_with fail
                refine (HFD.out _ HB1z.out).mono ?_
                rintro e z2 ⟨rfl, q9, hz2'⟩
                have HBz := Lib.hid (show Below wr.heap.size wr z2 by rw [hz2']; exact below_drewN HB1z.out q9)
                clear hz2' hxz HB1z
                go_wp2_with fail
                refine (CS1.out _ HBz.out).mono ?_
                rintro e y1 ⟨x1, rfl, hx1, hc1⟩
                have HD1 := Lib.hid (HBz.out.trans (hc1.mono HBz.out.size))
                have CT1 := Lib.hid (CT.out y1 x1 hx1 HD1.out)
                clear hx1 hc1 HBz
                go_wp2_with fail
                refine CT1.out.mono ?_
                rintro e y2 ⟨rfl, q2, hy2⟩
                have HD2 := Lib.hid (show Below wr.heap.size wr y2 by rw [hy2]; exact below_drewN HD1.out q2)
                clear hy2 HD1 CT1
                go_wp2_with fail
                refine (CS2.out _ HD2.out).mono ?_
                rintro e y3 ⟨x3, rfl, hx3, hc3⟩
                have HD3 := Lib.hid (HD2.out.trans (hc3.mono HD2.out.size))
                have CT3 := Lib.hid (CT.out y3 x3 hx3 HD3.out)
                clear hx3 hc3 HD2
                go_wp2_with fail
                refine CT3.out.mono ?_
                rintro e y4 ⟨rfl, q4, hy4⟩
                have HD4 := Lib.hid (HB3.out.trans ((show Below wr.heap.size wr y4 by rw [hy4]; exact below_drewN HD3.out q4).mono HB3.out.size))
                clear hy4 HD3 CT3
                go_wp2_with fail
                refine (known_name _ (HT.out.below HD4.out)).mono ?_
                rintro e y5 ⟨rfl, hb5⟩
                go_wp2_with fail
                go_ret
                exact ⟨rfl, HD4.out.trans (hb5.mono HD4.out.size)⟩
            · have hd0 : decide (0 ≤ at_) = false ∨ (decide (0 ≤ at_) = true ∧ decide (at_ < (k : Int)) = false) := by
                by_cases h0 : 0 ≤ at_
                · exact .inr ⟨by simpa using h0, by simp; omega⟩
                · exact .inl (by simpa using h0)
              have HBz := Lib.hid (Below.refl wr.heap.size wr)
              clear hin
              rcases hd0 with hd0 | ⟨hd0, hd1⟩
              all_goals
                go_wp2_with fail
                refine (CS1.out _ HBz.out).mono ?_
                rintro e y1 ⟨x1, rfl, hx1, hc1⟩
                have HD1 := Lib.hid (HBz.out.trans (hc1.mono HBz.out.size))
                have CT1 := Lib.hid (CT.out y1 x1 hx1 HD1.out)
                clear hx1 hc1 HBz
                go_wp2_with fail
                refine CT1.out.mono ?_
                rintro e y2 ⟨rfl, q2, hy2⟩
                have HD2 := Lib.hid (show Below wr.heap.size wr y2 by rw [hy2]; exact below_drewN HD1.out q2)
                clear hy2 HD1 CT1
                go_wp2_with fail
                refine (CS2.out _ HD2.out).mono ?_
                rintro e y3 ⟨x3, rfl, hx3, hc3⟩
                have HD3 := Lib.hid (HD2.out.trans (hc3.mono HD2.out.size))
                have CT3 := Lib.hid (CT.out y3 x3 hx3 HD3.out)
                clear hx3 hc3 HD2
                go_wp2_with fail
                refine CT3.out.mono ?_
                rintro e y4 ⟨rfl, q4, hy4⟩
                have HD4 := Lib.hid (HB3.out.trans ((show Below wr.heap.size wr y4 by rw [hy4]; exact below_drewN HD3.out q4).mono HB3.out.size))
                clear hy4 HD3 CT3
                go_wp2_with fail
                refine (known_name _ (HT.out.below HD4.out)).mono ?_
                rintro e y5 ⟨rfl, hb5⟩
                go_wp2_with fail
                go_ret
                exact ⟨rfl, HD4.out.trans (hb5.mono HD4.out.size)⟩
end Go.Proofs.YtlpmndljjdljmaaDoor.By
