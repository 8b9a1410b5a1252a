/-
  LAW of layer 23: ScopeTurned.
-/
import Derived.Test.YtmabenffdpipmaaSt
namespace Go.Proofs.Ytmabenffdpipmaa.By
open Go.RowKit Go.Maps
open Mem Rf
set_option linter.unusedSimpArgs false
set_option linter.unusedVariables false

theorem bound_as {A : Option Addr} {n c B : Nat} {os : List Ob} {w : World} {L : List (List Sy)} (hL : lists os = L) (hO : ObL w B A n c os) (hB : B ≤ w.heap.size) (hN : NmP os) (f s : Int) (a b : Nat) (e a' : Int) (ha : (a : Int) = a') (hr : boundV L f s = ((a, b), e)) :
    Calls Try.prog 10 #[.slice A n c, .int .i64 f, .int .i64 s] w fun r w' => r = .returned (.tuple #[.int .i64 a', .int .i64 (b : Int), .int .i64 e]) ∧ Below w.heap.size w w' := by
  have := bound_any A n c B os w hO hB hN f s
  rw [hL, hr] at this
  unfold boundE at this
  dsimp only at this
  rwa [ha] at this

/-- Where a symbol of files that are right is bound to, and where in the files turned round. -/
theorem turned_facts {L : List (List Sy)} {n : Nat} (hL : L.length = n) (h : (checkV L).1 = 0) (i j : Nat) (hi : i < n) (hj : j < (rowS L i).length) :
    ∃ (a b : Nat) (z1 : Bool) (z4 : Int), a < n ∧ b < (rowS L a).length ∧ boundV L (i : Int) (j : Int) = ((a, b), 0) ∧ boundV L.reverse ((n : Int) - 1 - (i : Int)) (j : Int) = ((n - 1 - a, b), 0) ∧ (z4 == -1) = false ∧
      atS L a b = ((atS L i j).1, z1, (atS L i j).2.2.1, (atS L i j).2.2.2.1, z4) ∧ ((n - 1 - a : Nat) : Int) = (n : Int) - 1 - (a : Int) := by
  subst hL
  have hck := check_ok h
  have hb0 := loose_none hck.2.2.2 (x := ((i, j), atS L i j)) (allS_mem hi hj)
  obtain ⟨q1, q2, q3, q4, q5, q6⟩ := bound_ok (p := (i, j)) hi hj hb0
  have hr0 : boundV L (i : Int) (j : Int) = boundAt L (i, j) := by
    unfold boundV
    rw [if_pos ⟨by omega, by omega, by omega, by rw [Int.toNat_natCast]; omega⟩, Int.toNat_natCast, Int.toNat_natCast]
  have hrv : boundV L.reverse ((L.length - 1 - i : Nat) : Int) (j : Int) = (flip L (boundAt L (i, j)).1, 0) := by
    have hfr := rowS_rev hi
    unfold boundV
    rw [if_pos ⟨by omega, by rw [List.length_reverse]; omega, by omega, by rw [Int.toNat_natCast, hfr]; omega⟩, Int.toNat_natCast, Int.toNat_natCast]
    exact boundAt_rev hck.2.2.1 (p := (i, j)) hi hb0
  obtain ⟨⟨⟨a, b⟩, e⟩, hab⟩ : ∃ r, boundAt L (i, j) = r := ⟨_, rfl⟩
  rw [hab] at q1 q2 q3 q4 q5 q6 hr0 hrv hb0
  dsimp only at q1 q2 q3 q4 q5 q6 hb0
  subst hb0
  refine ⟨a, b, (atS L a b).2.1, (atS L a b).2.2.2.2, q1, q2, hr0, ?_, by simpa using q3, ?_, by omega⟩
  · rw [show (L.length : Int) - 1 - (i : Int) = ((L.length - 1 - i : Nat) : Int) by omega]
    exact hrv
  · rw [← q4, ← q5, ← q6]

set_option maxRecDepth 100000 in
set_option maxHeartbeats 8000000 in
theorem turned_any (w : World) (A : Option Addr) (n c : Nat) (os : List Ob) (h : ObW w A n c os) :
    Calls Try.prog 4 #[.slice A n c] w fun e w' => e = .returned (.bool true) ∧ Below w.heap.size w w' := by
  have HF := Lib.hid (few24 A n c w.heap.size os w h.1 h.2.1 (Nat.le_refl _))
  have HK := Lib.hid (fun W => known_any W)
  have hn := h.1.1.few
  obtain ⟨iO, hiO, hz0, hz1, hz2⟩ := info_split infoOb
  have hL : (lists os).length = n := by rw [lists_length, h.1.1.1]
  obtain ⟨⟨ca, cb, cc⟩, hcv⟩ : ∃ cv, checkV (lists os) = cv := ⟨_, rfl⟩
  have HCH := Lib.hid (fun (hp : FewP n os) W (hb : Below w.heap.size w W) => by
    have := check_any A n c _ os W (h.1.below hb) hb.size (nmp_of h hp.n9 (fun i hi => (hp.each i hi).1) (by omega))
    rw [hcv] at this
    unfold chkE at this
    exact this)
  have H := Lib.hid h
  have HL := Lib.hid hL
  have HCV := Lib.hid hcv
  clear h hL hcv
  by_cases e0 : ca = 0
  · subst e0
    go_enter Try.func4, Try.ntmps4
    go_wp2_with (go_at_call 6; refine HF.out.mono ?_; rintro e w1 ⟨⟨b, rfl, hb⟩, b1⟩; have HP := Lib.hid hb; have HB1 := Lib.hid b1; clear hb b1; cases b)
    · go_wp2_with (go_at_call 7; refine (HK.out _).mono ?_; rintro e w2 ⟨rfl, b2⟩; have HB2 := Lib.hid (HB1.out.trans (b2.mono HB1.out.size)); clear b2)
      go_ret
      exact ⟨rfl, HB2.out⟩
    have HPP := Lib.hid (HP.out (by trivial))
    have hn9 := HPP.out.n9
    go_wp2_with (go_at_call 14; refine (HCH.out HPP.out _ HB1.out).mono ?_; rintro e w2 ⟨rfl, b2⟩; have hwy := why_of 0 cb cc w2; have HB2 := Lib.hid (HB1.out.trans (b2.mono HB1.out.size)); clear b2)
    clear hwy
    go_loopw [3, 4] (fun v i wr => ∃ k : Nat, k ≤ n ∧ i = .int .i64 (k : Int) ∧ wr.ownsRow w.heap.size 40 3 v k ((os.reverse.take k).flatMap encOb) ∧ Below w.heap.size w wr) (fun _ i _ => n - (intOf i).toNat)
    case atStart => exact ⟨0, Nat.zero_le _, rfl, World.ownsRow_nil _ _ _ _, HB2.out⟩
    case round =>
      obtain ⟨k, hk, rfl, hown, hbel⟩ := hrel
      by_cases hlt : k < n
      · have hkI : (k : Int) < (n : Int) := by omega
        have hmn : n - 1 - k < n := by omega
        obtain ⟨ad, rfl, hblk, c0, c1, c2⟩ := (H.out.1.below hbel).at_ hmn
        have HTK := Lib.hid (take_more (k := k) H.out.1.1.1 hlt)
        obtain ⟨o, ho⟩ : ∃ o, obAt os (n - 1 - k) = o := ⟨_, rfl⟩
        rw [ho] at c0 c1 c2 HTK
        have HOE := Lib.hid (show encOb o = encOb o from rfl)
        obtain ⟨oA, on, oc, ol, ⟨fA, fn, fc⟩, ⟨dA, dn, dc⟩⟩ := o
        unfold slV at c1 c2
        dsimp only at c0 c1 c2
        have HWB := Lib.hid (show ∀ W : World, Wd 3 encOb (W.alloc (.cells #[.slice oA on oc, .slice fA fn fc, .slice dA dn dc] 40)) (W.alloc (.cells #[.slice oA on oc, .slice fA fn fc, .slice dA dn dc] 40)).heap.size (some ⟨W.heap.size, 0, none⟩) 1 1 [(⟨oA, on, oc, ol, (fA, fn, fc), (dA, dn, dc)⟩ : Ob)] from fun W => wd_blk (n := 1) encOb_length (Blk.new W _ _) (by simp) rfl (by omega))
        have HOW := Lib.hid hown
        have HBE := Lib.hid hbel
        have hwr := hbel.size
        clear hown hbel ho
        go_wp2_with (at_builtin; go_loud (refine wpList_append_wd _ rfl _ _ 22 rfl w.heap.size 40 iO (.agg #[.slice none 0 0, .slice none 0 0, .slice none 0 0]) 3 72 Try.underlying22 hiO hz0 hz1 hz2 rfl (by decide) encOb_length encOb_one _ k _ rfl (own_keep1 HOW.out fun _ _ hl _ => Below.heap_alloc _ _ _ hl) (some ⟨wr.heap.size, 0, none⟩) 1 1 _ rfl (HWB.out wr) (by unfold maxLen; omega) (by omega) (by simp; omega) ?_; intro v1 wA hA1 gA; have HA1 := Lib.hid hA1; have GA := Lib.hid gA; clear hA1 gA))
        go_roundw
        case rel =>
          refine ⟨k + 1, by omega, by go_num, ?_, ?_⟩
          · rw [HTK.out, List.flatMap_append]
            exact HA1.out
          · exact (HBE.out.alloc HBE.out.size _).grown GA.out (by have := HBE.out.size; simp; omega) (fun r e => (HOW.out.lt r e).1)
        case measure => simp [intOf]; omega
      · obtain rfl : k = n := by omega
        rw [List.take_of_length_le (by rw [List.length_reverse, H.out.1.1.1]; exact Nat.le_refl _)] at hown
        obtain ⟨A', c', rfl, hwd⟩ := wd_own encOb_length (by rw [List.length_reverse, H.out.1.1.1]) hown
        have hobr := obL_rev H.out.1 (Nat.le_refl _) hbel hwd
        have HOR := Lib.hid (fun W (hb : Below wr.heap.size wr W) => (hobr.below hb).more hb.size)
        have h60 : ∀ i, i < k → (obAt os i).l.length ≤ 60 := fun i hi => by rw [(H.out.1.2 i hi).1]; exact (HPP.out.each i hi).1
        have hnr := nmp_rev H.out.1.1.1 (nmp_of H.out HPP.out.n9 (fun i hi => (HPP.out.each i hi).1) (by omega)) hn9 h60
        have hcv : (checkV (lists os)).1 = 0 := by rw [HCV.out]
        have hcr : checkV (lists os.reverse) = (0, 0, 0) := by rw [lists_rev]; exact check_rev hcv
        have HCR := Lib.hid (fun W (hb : Below wr.heap.size wr W) => by
          have := check_any A' k c' _ os.reverse W (HOR.out W hb) (Nat.le_refl _) hnr
          rw [hcr] at this
          unfold chkE at this
          exact this)
        have HBO := Lib.hid (fun W (hb : Below w.heap.size w W) f s a b e a' ha hr => bound_as (L := lists os) rfl (H.out.1.below hb) hb.size (nmp_of H.out HPP.out.n9 (fun i hi => (HPP.out.each i hi).1) (by omega)) f s a b e a' ha hr)
        have HBR := Lib.hid (fun W (hb : Below wr.heap.size wr W) f s a b e a' ha hr => bound_as (lists_rev os) (HOR.out W hb) (Nat.le_refl _) hnr f s a b e a' ha hr)
        have HBE := Lib.hid hbel
        have HFS := Lib.hid (fun W (hb : Below w.heap.size w W) => (fs_of (H.out.1.below hb)))
        have HRD := Lib.hid (turned_facts HL.out hcv)
        have HLR := Lib.hid (lists_rev os)
        clear hown hbel hwd hobr hnr hcv hcr h60
        obtain ⟨wq, hwq⟩ : ∃ wq, wq = wr := ⟨_, rfl⟩
        subst hwq
        go_wp2_with (go_at_call 14; refine (HCR.out _ (Below.refl _ _)).mono ?_; rintro e w5 ⟨rfl, b5⟩; have hwy5 := why_of 0 0 0 w5; have HB5 := Lib.hid b5; clear b5)
        clear hwy5
        go_loopw [5] (fun i wr => ∃ i' : Nat, i' ≤ k ∧ i = .int .i64 (i' : Int) ∧ Below wq.heap.size wq wr) (fun i _ => k - (intOf i).toNat)
        case atStart => exact ⟨0, Nat.zero_le _, rfl, HB5.out⟩
        case round =>
          obtain ⟨i, hi, rfl, hbel⟩ := hrel
          by_cases hlt2 : i < k
          · have hiI : (i : Int) < (k : Int) := by omega
            have hi0 : (0 : Int) ≤ (i : Int) := by omega
            obtain ⟨on, hon⟩ : ∃ on, (rowS (lists os) i).length = on := ⟨_, rfl⟩
            have HON := Lib.hid hon
            have hbw := HBE.out.trans (hbel.mono HBE.out.size)
            have honm : on ≤ 9223372036854775807 := by
              obtain ⟨_, _, _, _, _, _, _, _, _, _, _, _, _, _, _, h1, h2, _⟩ := (HFS.out _ hbw).row i hlt2
              omega
            have HBL := Lib.hid hbel
            obtain ⟨wz, hwz⟩ : ∃ wz, wz = wr := ⟨_, rfl⟩
            subst hwz
            clear hbel hon hbw
            go_wp2_with fail
            go_loopw [6] (fun i wr => ∃ j : Nat, j ≤ on ∧ i = .int .i64 (j : Int) ∧ Below wq.heap.size wq wr) (fun i _ => on - (intOf i).toNat)
            case atStart => exact ⟨0, Nat.zero_le _, rfl, HBL.out⟩
            case round =>
              obtain ⟨j, hj, rfl, hbel⟩ := hrel
              have hbw := HBE.out.trans (hbel.mono HBE.out.size)
              obtain ⟨ad, oA, on', oc, fA, fn, fc, dA, dn, dc, rfl, hblk, c0, c1, c2, h1, h2, h3⟩ := (HFS.out wr hbw).row i hlt2
              obtain rfl : on' = on := by rw [← h1, HON.out]
              clear h1 h2 c1 c2
              by_cases hjl : j < on'
              · have hjI : (j : Int) < (on' : Int) := by omega
                have hj0 : (0 : Int) ≤ (j : Int) := by omega
                obtain ⟨ad2, rfl, hb2, s0, s1, s2, s3, s4⟩ := h3 j hjl
                obtain ⟨a, b, z1, z4, q1, q2, hr0, hrv, hz4, hz, hk2⟩ := HRD.out i j hlt2 (by rw [HON.out]; exact hjl)
                obtain ⟨⟨y0, y1, y2, y3, y4⟩, hy⟩ : ∃ s, atS (lists os) i j = s := ⟨_, rfl⟩
                rw [hy] at s0 s1 s2 s3 s4 hz
                dsimp only at s0 s1 s2 s3 s4 hz
                have HZ := Lib.hid hz
                have HQ1 := Lib.hid q1
                have HQ2 := Lib.hid q2
                have HC1 := Lib.hid (fun W hb => HBO.out W hb _ _ a b 0 _ rfl hr0)
                have HC2 := Lib.hid (fun W hb => HBR.out W hb _ _ _ b 0 _ hk2 hrv)
                have haI : (a : Int) < (k : Int) := by omega
                have ha0 : (0 : Int) ≤ (a : Int) := by omega
                have ha1 : ¬ (a : Int) < 0 := by omega
                have ha2 : ¬ (k : Int) ≤ (a : Int) := by omega
                have hb00 : (0 : Int) ≤ (b : Int) := by omega
                have hb1 : ¬ (b : Int) < 0 := by omega
                obtain ⟨W6, hW6⟩ : ∃ W6, wr.alloc (.cells #[.string y0, .bool y1, .int .i64 y2, .int .i64 y3, .int .i64 y4] 42) = W6 := ⟨_, rfl⟩
                have hq6 : Below wq.heap.size wq W6 := hW6 ▸ hbel.alloc hbel.size _
                have HX6 := Lib.hid (show Blk W6 wr.heap.size 42 #[.string y0, .bool y1, .int .i64 y2, .int .i64 y3, .int .i64 y4] from hW6 ▸ Blk.new _ _ _)
                have H6 := Lib.hid hq6
                clear h3 hbel hbw hr0 hrv hy hz q1 q2 hk2 hq6
                go_wp2_with (go_at_call 10; refine (HC1.out W6 (HBE.out.trans (H6.out.mono HBE.out.size))).mono ?_; rintro e w7 ⟨rfl, b7⟩; have h7 := H6.out.trans (b7.mono H6.out.size); obtain ⟨ad3, oA3, on3, oc3, fA3, fn3, fc3, dA3, dn3, dc3, e3, hblk3, c30, c31, c32, g1, g2, g3⟩ := (HFS.out w7 (HBE.out.trans (h7.mono HBE.out.size))).row a HQ1.out; injection e3 with e3; subst e3; have hb3 : b < on3 := (by rw [← g1]; exact HQ2.out); obtain ⟨ad4, rfl, hb4, t0, t1, t2, t3, t4⟩ := g3 b hb3; have hb3I : (b : Int) < (on3 : Int) := (by omega); have hb3J : ¬ (on3 : Int) ≤ (b : Int) := (by omega); rw [HZ.out] at t0 t1 t2 t3 t4; dsimp only at t0 t1 t2 t3 t4; obtain ⟨W8, hW8⟩ : ∃ W8, w7.alloc (.cells #[.string y0, .bool z1, .int .i64 y2, .int .i64 y3, .int .i64 z4] 42) = W8 := ⟨_, rfl⟩; have HX8 := Lib.hid (show Blk W8 w7.heap.size 42 #[.string y0, .bool z1, .int .i64 y2, .int .i64 y3, .int .i64 z4] from hW8 ▸ Blk.new _ _ _); have h78 : Below w7.heap.size w7 W8 := hW8 ▸ (Below.refl _ _).alloc (Nat.le_refl _) _; have HY8 := Lib.hid ((HX6.out.below b7 HX6.out.lt).below h78 (HX6.out.below b7 HX6.out.lt).lt); have H8 := Lib.hid (h7.trans (h78.mono h7.size)); clear b7 h7 g1 g2 g3 hb3 c31 c32 h78 hblk3; go_wp2_with (go_at_call 10; refine (HC2.out W8 H8.out).mono ?_; rintro e w9 ⟨rfl, b9⟩; have hx9 := HX8.out.below b9 HX8.out.lt; have hy9 := HY8.out.below b9 HY8.out.lt; have x0 : w9.cell? ⟨w7.heap.size, 0, none⟩ = some (.string y0) := hx9.cell 0; have x2 : w9.cell? ⟨w7.heap.size, 2, none⟩ = some (.int .i64 y2) := hx9.cell 2; have x3 : w9.cell? ⟨w7.heap.size, 3, none⟩ = some (.int .i64 y3) := hx9.cell 3; have x4 : w9.cell? ⟨w7.heap.size, 4, none⟩ = some (.int .i64 z4) := hx9.cell 4; have v0 : w9.cell? ⟨wr.heap.size, 0, none⟩ = some (.string y0) := hy9.cell 0; have v2 : w9.cell? ⟨wr.heap.size, 2, none⟩ = some (.int .i64 y2) := hy9.cell 2; have v3 : w9.cell? ⟨wr.heap.size, 3, none⟩ = some (.int .i64 y3) := hy9.cell 3; have H9 := Lib.hid (H8.out.trans (b9.mono H8.out.size)); clear b9 hx9 hy9))
                go_roundw
                case rel => exact ⟨j + 1, by omega, by go_num, H9.out⟩
                case measure => simp [intOf]; omega
              · obtain rfl : j = on' := by omega
                go_wp2_with fail
                go_roundw
                case rel => exact ⟨i + 1, by omega, by go_num, hbel⟩
                case measure => simp [intOf]; omega
          · obtain rfl : i = k := by omega
            go_wp2_with (go_at_call 7; refine (HK.out _).mono ?_; rintro e w9 ⟨rfl, b9⟩; have HB9 := Lib.hid ((HBE.out.trans (hbel.mono HBE.out.size)).trans (b9.mono (Nat.le_trans HBE.out.size hbel.size))); clear b9)
            go_ret
            exact ⟨rfl, HB9.out⟩
  · have e0' : (ca != 0) = true := by simp [e0]
    go_enter Try.func4, Try.ntmps4
    go_wp2_with (go_at_call 6; refine HF.out.mono ?_; rintro e w1 ⟨⟨b, rfl, hb⟩, b1⟩; have HP := Lib.hid hb; have HB1 := Lib.hid b1; clear hb b1; cases b)
    · go_wp2_with (go_at_call 7; refine (HK.out _).mono ?_; rintro e w2 ⟨rfl, b2⟩; have HB2 := Lib.hid (HB1.out.trans (b2.mono HB1.out.size)); clear b2)
      go_ret
      exact ⟨rfl, HB2.out⟩
    have HPP := Lib.hid (HP.out (by trivial))
    go_wp2_with (go_at_call 14; refine (HCH.out HPP.out _ HB1.out).mono ?_; rintro e w2 ⟨rfl, b2⟩; have hwy := why_of ca cb cc w2; have HB2 := Lib.hid (HB1.out.trans (b2.mono HB1.out.size)); clear b2; go_wp2_with (go_at_call 7; refine (HK.out _).mono ?_; rintro e w3 ⟨rfl, b3⟩; have HB3 := Lib.hid (HB2.out.trans (b3.mono HB2.out.size)); clear b3))
    go_ret
    exact ⟨rfl, HB3.out⟩
end Go.Proofs.Ytmabenffdpipmaa.By
