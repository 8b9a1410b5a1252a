/-
  WALK of layer 23: the document's Check.
-/
import Derived.Test.YtmabenffdpipmaaSo
namespace Go.Proofs.Ytmabenffdpipmaa.By
open Go.RowKit Go.Maps
open Mem Rf
set_option linter.unusedSimpArgs false
set_option linter.unusedVariables false

set_option maxRecDepth 100000 in
set_option maxHeartbeats 4000000 in
theorem rcheck_any (A : Option Addr) (n c B : Nat) (L : List (List Sy)) (w : World) (h : Fs w B A n c L) (hB : B ≤ w.heap.size) :
    Calls Try.prog 15 #[.slice A n c] w fun e w' => e = .returned (chkE (checkV L)) ∧ Below w.heap.size w w' := by
  have hn := h.few
  have hL := h.len
  by_cases hmany : n = 0 ∨ 6 < n
  · have HV := Lib.hid (check_many (L := L) (by rw [hL]; exact hmany))
    have hm1 : decide ((n : Int) = 0) = true ∨ (((n : Int) == 0) = false ∧ (6 : Int) < (n : Int)) := by
      rcases hmany with h | h
      · exact .inl (by simp [h])
      · exact .inr ⟨by simp; omega, by omega⟩
    rw [HV.out]
    clear h hmany hL
    go_enter Try.func15, Try.ntmps15
    rcases hm1 with h | ⟨h, h6⟩
    · have h' : ((n : Int) == 0) = true := by simpa using h
      clear h
      go_wp2_with fail
      refine bodyPost_ret (v := .agg #[.int .i64 19, .int .i64 (-1), .int .i64 (-1)]) (by simp [results, Try.results15, go_sem]) rfl ⟨rfl, (Below.refl _ _).alloc (Nat.le_refl _) _⟩
    · go_wp2_with fail
      refine bodyPost_ret (v := .agg #[.int .i64 19, .int .i64 (-1), .int .i64 (-1)]) (by simp [results, Try.results15, go_sem]) rfl ⟨rfl, (Below.refl _ _).alloc (Nat.le_refl _) _⟩
  · have hm0 : ((n : Int) == 0) = false := by simp; omega
    have hm6 : ¬ (6 : Int) < (n : Int) := by omega
    have HMA := Lib.hid (show ¬ (L.length = 0 ∨ 6 < L.length) by rw [hL]; exact hmany)
    obtain ⟨ta, tb, tc, tt, hte, htt, htf⟩ := rejE_form L HMA.out
    obtain ⟨W0, hW0⟩ : ∃ W0, w.alloc (.cells #[.int .i64 0, .int .i64 0, .int .i64 0] 31) = W0 := ⟨_, rfl⟩
    have hb0 : Below w.heap.size w W0 := hW0 ▸ (Below.refl _ _).alloc (Nat.le_refl _) _
    have hrb : Blk W0 w.heap.size 31 #[.int .i64 0, .int .i64 0, .int .i64 0] := hW0 ▸ Blk.new _ _ _
    have hF0 := h.below hB hb0
    have hB0 := Nat.le_trans hB hb0.size
    have hTW := rtwice_any A n c B L W0 hF0 hB0
    rw [hte] at hTW
    have HTW := Lib.hid hTW
    have HTT := Lib.hid htt
    have HTF := Lib.hid htf
    have HRB := Lib.hid hrb
    have HB0 := Lib.hid hb0
    have HF := Lib.hid hF0
    have HBB := Lib.hid hB0
    have HLN := Lib.hid hL
    clear hmany hte hTW htt htf hb0 hrb hF0 hB0 h hB hL
    go_enter Try.func15, Try.ntmps15
    go_wp2_with (go_at_call 13; refine HTW.out.mono ?_; rintro e w3 ⟨rfl, hb3⟩; obtain ⟨W4, hW4⟩ : ∃ W4, w3.alloc (.cells #[.int .i64 ta, .int .i64 tb, .int .i64 tc] 31) = W4 := ⟨_, rfl⟩; have h04 : Below W0.heap.size W0 W4 := hW4 ▸ hb3.alloc hb3.size _; have htb : Blk W4 w3.heap.size 31 #[.int .i64 ta, .int .i64 tb, .int .i64 tc] := hW4 ▸ Blk.new _ _ _; have hr4 := HRB.out.below h04 HRB.out.lt; have a0 : W4.cell? ⟨w3.heap.size, 0, none⟩ = some (.int .i64 ta) := htb.cell 0; have a1 : W4.cell? ⟨w3.heap.size, 1, none⟩ = some (.int .i64 tb) := htb.cell 1; have a2 : W4.cell? ⟨w3.heap.size, 2, none⟩ = some (.int .i64 tc) := htb.cell 2; have q0 : W4.cell? ⟨w.heap.size, 0, none⟩ = some (.int .i64 0) := hr4.cell 0; have q1 : W4.cell? ⟨w.heap.size, 1, none⟩ = some (.int .i64 0) := hr4.cell 1; have q2 : W4.cell? ⟨w.heap.size, 2, none⟩ = some (.int .i64 0) := hr4.cell 2; have f0 := hr4.frozen 0; have f1 := hr4.frozen 1; have f2 := hr4.frozen 2; have H04 := Lib.hid h04; have HR4 := Lib.hid hr4; clear hb3 h04 htb hr4; cases tt)
    rotate_left
    · have hf3 : Blk (((W4.setCell ⟨w.heap.size, 0, none⟩ (.int .i64 ta)).setCell ⟨w.heap.size, 1, none⟩ (.int .i64 tb)).setCell ⟨w.heap.size, 2, none⟩ (.int .i64 tc)) w.heap.size 31 #[.int .i64 ta, .int .i64 tb, .int .i64 tc] := ((HR4.out.stored 0 _).stored 1 _).stored 2 _
      have c0 := hf3.cell 0
      have c1 := hf3.cell 1
      have c2 := hf3.cell 2
      refine bodyPost_ret (v := .agg #[.int .i64 ta, .int .i64 tb, .int .i64 tc]) (by simp [results, Try.results15, go_sem, c0, c1, c2]) rfl ⟨by rw [HTT.out (by trivial)]; rfl, ?_⟩
      exact (((HB0.out.trans (H04.out.mono HB0.out.size)).setCell (p := ⟨w.heap.size, 0, none⟩) (by simp) _).setCell (p := ⟨w.heap.size, 1, none⟩) (by simp) _).setCell (p := ⟨w.heap.size, 2, none⟩) (by simp) _
    have HTN := Lib.hid (HTF.out (by trivial))
    have HR := Lib.hid (fun W (hb : Below W4.heap.size W4 W) => HF.out.below HBB.out (H04.out.trans (hb.mono H04.out.size)))
    have HBW := Lib.hid (Nat.le_trans HBB.out H04.out.size)
    have HX := Lib.hid (fun W (hb : Below W4.heap.size W4 W) => HR4.out.below hb HR4.out.lt)
    have HA := Lib.hid (show upTo L n 0 = allS L by rw [← HLN.out]; exact upTo_all L)
    have H4 := Lib.hid (HB0.out.trans (H04.out.mono HB0.out.size))
    clear a0 a1 a2 q0 q1 q2 f0 f1 f2
    go_wp2_with fail
    go_loopw [5] (fun i wr => ∃ k : Nat, k ≤ n ∧ i = .int .i64 (k : Int) ∧ okTo L (upTo L k 0) ∧ Below W4.heap.size W4 wr) (fun i _ => n - (intOf i).toNat)
    case atStart => exact ⟨0, Nat.zero_le _, rfl, (show okTo L (upTo L 0 0) from by rw [show upTo L 0 0 = [] by simp [upTo]]; exact fun x hx => absurd hx (by simp)), Below.refl _ _⟩
    case round =>
      obtain ⟨k, hk, rfl, hno, hbel⟩ := hrel
      by_cases hlt : k < n
      · have hkI : (k : Int) < (n : Int) := by omega
        have hk0 : (0 : Int) ≤ (k : Int) := by omega
        obtain ⟨wz, hwz⟩ : ∃ wz, wz = wr := ⟨_, rfl⟩
        subst hwz
        have HNO := Lib.hid hno
        have HBE := Lib.hid hbel
        obtain ⟨on, hon⟩ : ∃ on, (rowS L k).length = on := ⟨_, rfl⟩
        have HON := Lib.hid hon
        have honm : on ≤ 9223372036854775807 := by
          obtain ⟨_, _, _, _, _, _, _, _, _, _, _, _, _, _, _, h1, h2, _⟩ := (HR.out _ hbel).row k hlt
          omega
        clear hno hbel hon
        go_wp2_with fail
        go_loopw [6] (fun i wr => ∃ j : Nat, j ≤ on ∧ i = .int .i64 (j : Int) ∧ okTo L (upTo L k j) ∧ Below W4.heap.size W4 wr) (fun i _ => on - (intOf i).toNat)
        case atStart => exact ⟨0, Nat.zero_le _, rfl, HNO.out, HBE.out⟩
        case round =>
          obtain ⟨j, hj, rfl, hno, hbel⟩ := hrel
          obtain ⟨ad, oA, on', oc, fA, fn, fc, dA, dn, dc, rfl, hblk, c0, c1, c2, h1, h2, h3⟩ := (HR.out wr hbel).row k hlt
          obtain rfl : on' = on := by rw [← h1, HON.out]
          clear h1 h2 h3 c1 c2
          by_cases hjl : j < on'
          · have hjI : (j : Int) < (on' : Int) := by omega
            have hj0 : (0 : Int) ≤ (j : Int) := by omega
            have hkL : k < L.length := by rw [HLN.out]; exact hlt
            have hjL : j < (rowS L k).length := by rw [HON.out]; exact hjl
            have hmo := upTo_more L k j hjL
            have HOK := Lib.hid (show (boundAt L (k, j)).2 = 0 → okTo L (upTo L k (j + 1)) from fun e => by rw [hmo]; exact okTo_snoc hno e)
            have HLO := Lib.hid (show (boundAt L (k, j)).2 ≠ 0 → looseV L = some (k, j) from fun e => loose_first (x := ((k, j), atS L k j)) (by rw [← hmo]; exact upTo_in L hkL) hno e)
            have hc := rbound_in (some ad) n c B L wr (HR.out wr hbel) (Nat.le_trans HBW.out hbel.size) k j hlt hjL
            obtain ⟨r, hr⟩ : ∃ r, boundAt L (k, j) = r := ⟨_, rfl⟩
            have HRR := Lib.hid hr
            rw [hr] at hc HOK HLO
            obtain ⟨⟨ra, rb⟩, re⟩ := r
            unfold boundE at hc
            dsimp only at hc HOK HLO
            have HC := Lib.hid hc
            have HBE2 := Lib.hid hbel
            clear hno hbel hkL hjL hmo hc hr
            by_cases e0 : re = 0
            · have e0' : (re != 0) = false := by simp [e0]
              have HO := Lib.hid (HOK.out e0)
              clear e0
              go_wp2_with (go_at_call 11; refine HC.out.mono ?_; rintro e w6 ⟨rfl, hb6⟩; have HB6 := Lib.hid (HBE2.out.trans (hb6.mono HBE2.out.size)); clear hb6)
              go_roundw
              case rel => exact ⟨j + 1, by omega, by go_num, HO.out, HB6.out⟩
              case measure => simp [intOf]; omega
            · have e0' : (re != 0) = true := by simp [e0]
              have HV := Lib.hid (check_loose HMA.out HTN.out (HLO.out e0))
              clear e0
              go_wp2_with (go_at_call 11; refine HC.out.mono ?_; rintro e w6 ⟨rfl, hb6⟩; have h6 := HBE2.out.trans (hb6.mono HBE2.out.size); have hr6 := HX.out w6 h6; have q0 : w6.cell? ⟨w.heap.size, 0, none⟩ = some (.int .i64 0) := hr6.cell 0; have q1 : w6.cell? ⟨w.heap.size, 1, none⟩ = some (.int .i64 0) := hr6.cell 1; have q2 : w6.cell? ⟨w.heap.size, 2, none⟩ = some (.int .i64 0) := hr6.cell 2; have f0 := hr6.frozen 0; have f1 := hr6.frozen 1; have f2 := hr6.frozen 2; have HR6 := Lib.hid hr6; have H6 := Lib.hid h6; clear hb6 h6 hr6)
              have hf3 : Blk (((w6.setCell ⟨w.heap.size, 0, none⟩ (.int .i64 re)).setCell ⟨w.heap.size, 1, none⟩ (.int .i64 (k : Int))).setCell ⟨w.heap.size, 2, none⟩ (.int .i64 (j : Int))) w.heap.size 31 #[.int .i64 re, .int .i64 (k : Int), .int .i64 (j : Int)] := ((HR6.out.stored 0 _).stored 1 _).stored 2 _
              have c0 := hf3.cell 0
              have c1 := hf3.cell 1
              have c2 := hf3.cell 2
              refine bodyPost_ret (v := .agg #[.int .i64 re, .int .i64 (k : Int), .int .i64 (j : Int)]) (by simp [results, Try.results15, go_sem, c0, c1, c2]) rfl ⟨by rw [HV.out, HRR.out]; rfl, ?_⟩
              exact (((H4.out.trans (H6.out.mono H4.out.size)).setCell (p := ⟨w.heap.size, 0, none⟩) (by simp) _).setCell (p := ⟨w.heap.size, 1, none⟩) (by simp) _).setCell (p := ⟨w.heap.size, 2, none⟩) (by simp) _
          · obtain rfl : j = on' := by omega
            have HV := Lib.hid (show okTo L (upTo L (k + 1) 0) by rw [← upTo_next, HON.out]; exact hno)
            clear hno
            go_wp2_with fail
            go_roundw
            case rel => exact ⟨k + 1, by omega, by go_num, HV.out, hbel⟩
            case measure => simp [intOf]; omega
      · obtain rfl : k = n := by omega
        rw [HA.out] at hno
        have HV := Lib.hid (check_fine HMA.out HTN.out (loose_all hno))
        have hbk := HX.out wr hbel
        have q0 : wr.cell? ⟨w.heap.size, 0, none⟩ = some (.int .i64 0) := hbk.cell 0
        have q1 : wr.cell? ⟨w.heap.size, 1, none⟩ = some (.int .i64 0) := hbk.cell 1
        have q2 : wr.cell? ⟨w.heap.size, 2, none⟩ = some (.int .i64 0) := hbk.cell 2
        have f0 := hbk.frozen 0
        have f1 := hbk.frozen 1
        have f2 := hbk.frozen 2
        have HBK := Lib.hid hbk
        have HBEL := Lib.hid hbel
        clear hno hbk hbel
        go_wp2_with fail
        have hf3 : Blk (((wr.setCell ⟨w.heap.size, 0, none⟩ (.int .i64 0)).setCell ⟨w.heap.size, 1, none⟩ (.int .i64 0)).setCell ⟨w.heap.size, 2, none⟩ (.int .i64 0)) w.heap.size 31 #[.int .i64 0, .int .i64 0, .int .i64 0] := ((HBK.out.stored 0 _).stored 1 _).stored 2 _
        have c0 := hf3.cell 0
        have c1 := hf3.cell 1
        have c2 := hf3.cell 2
        refine bodyPost_ret (v := .agg #[.int .i64 0, .int .i64 0, .int .i64 0]) (by simp [results, Try.results15, go_sem, c0, c1, c2]) rfl ⟨by rw [HV.out]; rfl, ?_⟩
        exact (((H4.out.trans (HBEL.out.mono H4.out.size)).setCell (p := ⟨w.heap.size, 0, none⟩) (by simp) _).setCell (p := ⟨w.heap.size, 1, none⟩) (by simp) _).setCell (p := ⟨w.heap.size, 2, none⟩) (by simp) _
end Go.Proofs.Ytmabenffdpipmaa.By
