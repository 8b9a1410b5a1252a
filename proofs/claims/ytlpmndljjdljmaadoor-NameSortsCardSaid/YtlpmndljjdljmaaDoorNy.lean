/-
  WALK: the law NameTells, of what came in.
-/
import Derived.Test.YtlpmndljjdljmaaDoorNl
namespace Go.Proofs.YtlpmndljjdljmaaDoor.By
open Go.RowKit
open Mem Nam

theorem slv_of_texts {W : World} {x : Addr} {len cap : Nat} {ss : List ByteArray} (hl : len ≤ cap) (hm : cap ≤ maxLen) (hz : len ≤ ss.length) (hcell : ∀ i, i < ss.length → W.cell? (x.add i) = some (.string (ss.getD i ByteArray.empty))) :
    ∃ l : List Bs, l.length = len ∧ SlV W W.heap.size (.slice (some x) len cap) (strs l) := by
  have hlen : ((ss.take len).map fun b => b.data.toList).length = len := by simp; omega
  refine ⟨(ss.take len).map fun b => b.data.toList, hlen, ?_⟩
  have h := SlV.at_ (w := W) (B := W.heap.size) x cap (strs ((ss.take len).map fun b => b.data.toList)) (by rw [strs_length, hlen]; exact hl) hm (Row.here fun j u hu => by
    have hj : j < len := by
      have := (List.getElem?_eq_some_iff.1 hu).1
      rw [strs_length, hlen] at this
      exact this
    rw [hcell j (by omega)]
    rw [← hu]
    have hjs : j < ss.length := by omega
    simp [strs, hj, hjs, List.getD])
  rwa [strs_length, hlen] at h

theorem few_of {l : List Bs} (h : fewB l = true) : (∀ x ∈ l, x.length ≤ 200) ∧ l.length ≤ 60 := by
  unfold fewB at h; simpa using h

set_option maxHeartbeats 2000000 in
theorem tells_any (w : World) (s : ByteArray) (file : Int) (l : List Bs) (v : Value) (hf : -9223372036854775808 ≤ file ∧ file ≤ 9223372036854775807) (h : SlV w w.heap.size v (strs l)) (ht : Tab w) :
    Calls Tryd.prog 3 #[.string s, .int .i64 file, v] w fun e w' => e = .returned (.bool true) ∧ Below w.heap.size w w' := by
  have HT := Lib.hid ht
  have HV := Lib.hid h
  by_cases hbig : 200 < s.size
  · have hd : decide (200 < (s.size : Int)) = true := by simp; omega
    clear hbig ht h hf
    go_enter Tryd.func3, Tryd.ntmps3
    go_wp2_with fail
    refine (known_name _ HT.out).mono ?_
    rintro e w1 ⟨rfl, hb⟩
    go_wp2_with fail
    go_ret
    exact ⟨rfl, hb⟩
  have hd : decide (200 < (s.size : Int)) = false := by simp; omega
  have HFEW := Lib.hid (few_any w _ v l h)
  cases hfb : fewB l
  · rw [hfb] at HFEW
    clear hfb hbig ht h hf
    go_enter Tryd.func3, Tryd.ntmps3
    go_wp2_with fail
    refine HFEW.out.mono ?_
    rintro e w1 ⟨rfl, q, hw1⟩
    have HB := Lib.hid (show Below w.heap.size w w1 by rw [hw1]; exact below_drewN (Below.refl _ _) q)
    clear hw1
    go_wp2_with fail
    refine (known_name _ (HT.out.below HB.out)).mono ?_
    rintro e w2 ⟨rfl, hb⟩
    go_wp2_with fail
    go_ret
    exact ⟨rfl, HB.out.trans (hb.mono HB.out.size)⟩
  · obtain ⟨hx, hl⟩ := few_of hfb
    rw [hfb] at HFEW
    have HS := Lib.hid (show s.size ≤ 600 by omega)
    have HL := Lib.hid hl
    have HX := Lib.hid hx
    have HFI := Lib.hid hf
    obtain ⟨J, hJ⟩ : ∃ J : ByteArray, (⟨(joinV file s.data.toList).toArray⟩ : ByteArray) = J := ⟨_, rfl⟩
    have HJ := Lib.hid hJ
    obtain ⟨cv, hcv⟩ : ∃ cv, checkV s.data.toList = cv := ⟨_, rfl⟩
    have HCV := Lib.hid hcv
    obtain ⟨iv, hiv⟩ : ∃ iv, idxV l s.data.toList = iv := ⟨_, rfl⟩
    have HIV := Lib.hid hiv
    clear hfb hbig ht h hf hx hl hJ hcv hiv
    go_enter Tryd.func3, Tryd.ntmps3
    go_wp2_with fail
    refine HFEW.out.mono ?_
    rintro e w1 ⟨rfl, q, hw1⟩
    have HB1 := Lib.hid (show Below w.heap.size w w1 by rw [hw1]; exact below_drewN (Below.refl _ _) q)
    have hc := check_all s w1
    rw [HCV.out] at hc
    have HC := Lib.hid hc
    clear hw1 hc HFEW
    go_wp2_with fail
    refine HC.out.mono ?_
    rintro e w2 ⟨rfl, hb2⟩
    have HB2 := Lib.hid (HB1.out.trans (hb2.mono HB1.out.size))
    have hc := rcheck_any s w2 (by have := HS.out; omega)
    rw [HCV.out] at hc
    have HC := Lib.hid hc
    clear hb2 hc HB1
    go_wp2_with fail
    refine HC.out.mono ?_
    rintro e w3 ⟨rfl, q3, hw3⟩
    have HB3 := Lib.hid (show Below w.heap.size w w3 by rw [hw3]; exact below_drewN HB2.out q3)
    have hc := join_any file s HFI.out.1 HFI.out.2 HS.out w3 (HT.out.below HB3.out)
    rw [HJ.out] at hc
    have HC := Lib.hid hc
    clear hw3 hc HB2
    go_wp2_with fail
    refine HC.out.mono ?_
    rintro e w4 ⟨rfl, hb4⟩
    have HB4 := Lib.hid (HB3.out.trans (hb4.mono HB3.out.size))
    have hc := rjoin_any file s HFI.out.2 HS.out w4
    rw [HJ.out] at hc
    have HC := Lib.hid hc
    clear hb4 hc HB3
    go_wp2_with fail
    refine HC.out.mono ?_
    rintro e w5 ⟨rfl, hb5⟩
    have HB5 := Lib.hid (HB4.out.trans (hb5.mono HB4.out.size))
    have hc := find_any w5 _ v l s (HV.out.below HB5.out) (by have := HL.out; omega)
    rw [HIV.out] at hc
    have HC := Lib.hid hc
    clear hb5 hc HB4
    go_wp2_with fail
    refine HC.out.mono ?_
    rintro e w6 ⟨rfl, q6, hw6⟩
    have HB6 := Lib.hid (show Below w.heap.size w w6 by rw [hw6]; exact below_drewN HB5.out q6)
    have hc := rfind_any w6 _ v l s (HV.out.below HB6.out) (by have := HL.out; omega)
    rw [HIV.out] at hc
    have HC := Lib.hid hc
    clear hw6 hc HB5
    go_wp2_with fail
    refine HC.out.mono ?_
    rintro e w7 ⟨rfl, q7, hw7⟩
    have HB7 := Lib.hid (show Below w.heap.size w w7 by rw [hw7]; exact below_drewN HB6.out q7)
    have HC := Lib.hid (sort_any w7 _ v l (HV.out.below HB7.out) (by have := HL.out; omega))
    clear hw7 HB6
    go_wp2_with fail
    refine HC.out.mono ?_
    rintro e w8 ⟨x8, rfl, hx8, hb8⟩
    have HB8 := Lib.hid (HB7.out.trans (hb8.mono HB7.out.size))
    have HX8 := Lib.hid hx8
    have HC := Lib.hid (rsort_any w8 v l ((HV.out.below HB8.out).more HB8.out.size) (by have := HL.out; omega) (fun x hx => by have := HX.out x hx; omega))
    clear hb8 hx8 HB7
    go_wp2_with fail
    refine HC.out.mono ?_
    rintro e w9 ⟨x9, rfl, hx9, hb9⟩
    have HB9 := Lib.hid (HB8.out.trans (hb9.mono HB8.out.size))
    have HC := Lib.hid (texts_same w9 _ _ x8 x9 (sortV l) ((HX8.out.below hb9)) hx9 (Nat.le_trans (compact_len _) (by rw [List.length_mergeSort]; have := names_len l; have := HL.out; omega)))
    clear hb9 hx9 HB8 HX8
    go_wp2_with fail
    refine HC.out.mono ?_
    rintro e w10 ⟨rfl, q10, hw10⟩
    have HB10 := Lib.hid (show Below w.heap.size w w10 by rw [hw10]; exact below_drewN HB9.out q10)
    clear hw10 HB9 HC
    go_wp2_with fail
    refine (known_name _ (HT.out.below HB10.out)).mono ?_
    rintro e w11 ⟨rfl, hb11⟩
    go_wp2_with fail
    go_ret
    exact ⟨rfl, HB10.out.trans (hb11.mono HB10.out.size)⟩
end Go.Proofs.YtlpmndljjdljmaaDoor.By
