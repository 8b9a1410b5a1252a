/-
  LAW of layer 23: ScopeMore.
-/
import Derived.Test.YtmabenffdpipmaaSv
import Derived.Test.YtmabenffdpipmaaSu
namespace Go.Proofs.Ytmabenffdpipmaa.By
open Go.RowKit Go.Maps
open Mem Rf
set_option linter.unusedSimpArgs false
set_option linter.unusedVariables false

theorem own_form {w : World} {base n : Nat} {v : Value} {xs : List Value} {e : TypeId} {k : Nat} (h : w.ownsRow base e k v n xs) : ∃ A c, v = .slice A n c := by
  rcases h.2 with ⟨rfl, rfl⟩ | ⟨g, cap, cur, rfl, _⟩
  · exact ⟨_, _, rfl⟩
  · exact ⟨_, _, rfl⟩
theorem blk_grown {w w' : World} {g : Nat} {t : TypeId} {cs : Array Value} {row : Option Nat} (h : Blk w g t cs) (hg : w.grownBy w' row) (hr : ∀ r, row = some r → g < r) : Blk w' g t cs :=
  (hg.block g h.lt (fun e => by have := hr g e.symm; omega)).trans h

theorem check_as {A : Option Addr} {n c B : Nat} {os : List Ob} {w : World} (hO : ObL w B A n c os) (hB : B ≤ w.heap.size) (hN : NmP os) (a b d : Int) (hr : checkV (lists os) = (a, b, d)) :
    Calls Try.prog 14 #[.slice A n c] w fun r w' => r = .returned (.agg #[.int .i64 a, .int .i64 b, .int .i64 d]) ∧ Below w.heap.size w w' := by
  have := check_any A n c B os w hO hB hN
  rw [hr] at this
  unfold chkE at this
  exact this
theorem allS_few {w : World} {A : Option Addr} {n c : Nat} {os : List Ob} (h : ObW w A n c os) (hn : n ≤ 9) (hk : ∀ i, i < n → (obAt os i).n ≤ 60) : (allS (lists os)).length ≤ 600 := by
  unfold allS
  rw [lists_length, h.1.1.1]
  refine Nat.le_trans (flat_few (m := 60) n fun i hi => ?_) (by omega)
  rw [rowL_length, rowS_lists (by rw [h.1.1.1]; exact hi), (h.1.2 i hi).1]
  exact hk i hi

set_option maxRecDepth 100000 in
set_option maxHeartbeats 8000000 in
theorem more_any (w : World) (A : Option Addr) (n c : Nat) (os : List Ob) (o : Ob) (h : ObW w A n c os) (hi : ObIn w o) :
    Calls Try.prog 5 #[.slice A n c, .agg #[.slice o.A o.n o.c, slV o.F, slV o.D]] w fun e w' => e = .returned (.bool true) ∧ Below w.heap.size w w' := by
  have hn := h.1.1.few
  obtain ⟨hiS, hiR, hiN⟩ := hi
  obtain ⟨oA, on, oc, ol, ⟨fA, fn, fc⟩, ⟨dA, dn, dc⟩⟩ := o
  unfold slV
  dsimp only at hiS hiN ⊢
  clear hiR
  have hon := hiS.few
  obtain ⟨W0, hW0⟩ : ∃ W0, w.alloc (.cells #[.slice oA on oc, .slice fA fn fc, .slice dA dn dc] 40) = W0 := ⟨_, rfl⟩
  have hb0 : Below w.heap.size w W0 := hW0 ▸ (Below.refl _ _).alloc (Nat.le_refl _) _
  have hbk : Blk W0 w.heap.size 40 #[.slice oA on oc, .slice fA fn fc, .slice dA dn dc] := hW0 ▸ Blk.new _ _ _
  have HF := Lib.hid (few24 A n c w.heap.size os W0 (h.1.below hb0) (fun i hi => (h.2.1 i hi).below hb0) hb0.size)
  have HK := Lib.hid (fun W => known_any W)
  have HBK := Lib.hid hbk
  have HB0 := Lib.hid hb0
  have H := Lib.hid h
  have HS := Lib.hid hiS
  have HN := Lib.hid hiN
  clear h hiS hiN hb0 hbk
  have hfew : ∀ (K : Prop), K → K := fun _ h => h
  clear hfew
  by_cases h60 : (60 : Int) < (on : Int)
  · go_enter Try.func5, Try.ntmps5
    go_wp2_with (go_at_call 6; refine HF.out.mono ?_; rintro e w1 ⟨⟨b, rfl, hb⟩, b1⟩; have x0 : w1.cell? ⟨w.heap.size, 0, none⟩ = some (.slice oA on oc) := (HBK.out.below b1 HBK.out.lt).cell 0; have HB1 := Lib.hid (HB0.out.trans (b1.mono HB0.out.size)); clear hb b1; cases b)
    · go_wp2_with (go_at_call 7; refine (HK.out _).mono ?_; rintro e w2 ⟨rfl, b2⟩; have HB2 := Lib.hid (HB1.out.trans (b2.mono HB1.out.size)); clear b2)
      go_ret
      exact ⟨rfl, HB2.out⟩
    · go_wp2_with (go_at_call 7; refine (HK.out _).mono ?_; rintro e w2 ⟨rfl, b2⟩; have HB2 := Lib.hid (HB1.out.trans (b2.mono HB1.out.size)); clear b2)
      go_ret
      exact ⟨rfl, HB2.out⟩
  by_cases h6 : (6 : Int) ≤ (n : Int)
  · go_enter Try.func5, Try.ntmps5
    go_wp2_with (go_at_call 6; refine HF.out.mono ?_; rintro e w1 ⟨⟨b, rfl, hb⟩, b1⟩; have x0 : w1.cell? ⟨w.heap.size, 0, none⟩ = some (.slice oA on oc) := (HBK.out.below b1 HBK.out.lt).cell 0; have HB1 := Lib.hid (HB0.out.trans (b1.mono HB0.out.size)); clear hb b1; cases b)
    · go_wp2_with (go_at_call 7; refine (HK.out _).mono ?_; rintro e w2 ⟨rfl, b2⟩; have HB2 := Lib.hid (HB1.out.trans (b2.mono HB1.out.size)); clear b2)
      go_ret
      exact ⟨rfl, HB2.out⟩
    · go_wp2_with (go_at_call 7; refine (HK.out _).mono ?_; rintro e w2 ⟨rfl, b2⟩; have HB2 := Lib.hid (HB1.out.trans (b2.mono HB1.out.size)); clear b2)
      go_ret
      exact ⟨rfl, HB2.out⟩
  go_enter Try.func5, Try.ntmps5
  go_wp2_with (go_at_call 6; refine HF.out.mono ?_; rintro e w1 ⟨⟨b, rfl, hb⟩, b1⟩; have x0 : w1.cell? ⟨w.heap.size, 0, none⟩ = some (.slice oA on oc) := (HBK.out.below b1 HBK.out.lt).cell 0; have HB1 := Lib.hid (HB0.out.trans (b1.mono HB0.out.size)); have HP := Lib.hid hb; have HX1 := Lib.hid (HBK.out.below b1 HBK.out.lt); clear hb b1; cases b)
  · go_wp2_with (go_at_call 7; refine (HK.out _).mono ?_; rintro e w2 ⟨rfl, b2⟩; have HB2 := Lib.hid (HB1.out.trans (b2.mono HB1.out.size)); clear b2)
    go_ret
    exact ⟨rfl, HB2.out⟩
  have HPP := Lib.hid (HP.out (by trivial))
  obtain ⟨iS, hiS, hy0, hy1, hy2⟩ := info_split infoSy
  obtain ⟨iO, hiO, hz0, hz1, hz2⟩ := info_split infoOb
  have on60 : on ≤ 60 := by omega
  have HSO := Lib.hid (fun W (hb : Below w1.heap.size w1 W) k (hk : k < on) => syl_at (HS.out.below (HB1.out.trans (hb.mono HB1.out.size))) hk)
  have HXB := Lib.hid (fun W (hb : Below w1.heap.size w1 W) => (HX1.out.below hb HX1.out.lt).cell 0)
  have HOL := Lib.hid HS.out.1
  go_loopw [6] (fun i wr => ∃ (k : Nat) (v : Value), k ≤ on ∧ i = .int .i64 (k : Int) ∧ wr.ownsRow (w1.heap.size + 1) 42 5 v k (((ol.map own1).take k).flatMap encSy) ∧ Blk wr w1.heap.size 40 #[v, .slice none 0 0, .slice none 0 0] ∧ Below w1.heap.size w1 wr) (fun i _ => on - (intOf i).toNat)
  case atStart => exact ⟨0, .slice none 0 0, Nat.zero_le _, rfl, World.ownsRow_nil _ _ _ _, Blk.new _ _ _, (Below.refl _ _).alloc (Nat.le_refl _) _⟩
  case round =>
    obtain ⟨k, v, hk, rfl, hown, hmb, hbel⟩ := hrel
    have x0 := HXB.out wr hbel
    obtain ⟨Av, cv, rfl⟩ := own_form hown
    by_cases hlt : k < on
    · have hkI : (k : Int) < (on : Int) := by omega
      have hk0 : (0 : Int) ≤ (k : Int) := by omega
      obtain ⟨ad2, rfl, hb2, s0, s1, s2, s3, s4⟩ := HSO.out wr hbel k hlt
      obtain ⟨⟨y0, y1, y2, y3, y4⟩, hy⟩ : ∃ s, syAt ol k = s := ⟨_, rfl⟩
      have HTK := Lib.hid (show (ol.map own1).take (k + 1) = (ol.map own1).take k ++ [((y0, true, y2, y3, 0) : Sy)] from by rw [own1_take (by rw [HOL.out]; exact hlt), hy]; rfl)
      rw [hy] at s0 s1 s2 s3 s4
      dsimp only at s0 s1 s2 s3 s4
      have m0 : wr.cell? ⟨w1.heap.size, 0, none⟩ = some (.slice Av k cv) := hmb.cell 0
      have hml := hmb.lt
      have HOW := Lib.hid hown
      have HMB := Lib.hid hmb
      have HBE := Lib.hid hbel
      clear hown hmb hbel hy
      have HWD := Lib.hid (show Wd 5 encSy ((wr.alloc (.cells #[.string y0, .bool true, .int .i64 y2, .int .i64 y3, .int .i64 0] 42)).alloc (.cells #[.string y0, .bool true, .int .i64 y2, .int .i64 y3, .int .i64 0] 42)) ((wr.alloc (.cells #[.string y0, .bool true, .int .i64 y2, .int .i64 y3, .int .i64 0] 42)).alloc (.cells #[.string y0, .bool true, .int .i64 y2, .int .i64 y3, .int .i64 0] 42)).heap.size (some ⟨wr.heap.size + 1, 0, none⟩) 1 1 [((y0, true, y2, y3, 0) : Sy)] from wd_blk (n := 1) encSy_length (blk_at (by simp)) (by simp) rfl (by omega))
      have HOX := Lib.hid (own_keep1 (w' := ((wr.alloc (.cells #[.string y0, .bool true, .int .i64 y2, .int .i64 y3, .int .i64 0] 42)).alloc (.cells #[.string y0, .bool true, .int .i64 y2, .int .i64 y3, .int .i64 0] 42))) HOW.out fun _ _ hl _ => (Below.heap_alloc _ _ _ (by simp; omega)).trans (Below.heap_alloc _ _ _ hl))
      have HMX := Lib.hid ((HMB.out.alloc (.cells #[.string y0, .bool true, .int .i64 y2, .int .i64 y3, .int .i64 0] 42)).alloc (.cells #[.string y0, .bool true, .int .i64 y2, .int .i64 y3, .int .i64 0] 42))
      have hsw := HBE.out.size
      go_wp2_with (at_builtin; go_loud (refine wpList_append_wd _ rfl _ _ 36 rfl (w1.heap.size + 1) 42 iS (.agg #[.string ⟨#[]⟩, .bool false, .int .i64 0, .int .i64 0, .int .i64 0]) 5 48 Try.underlying36 hiS hy0 hy1 hy2 rfl (by decide) encSy_length encSy_one _ k _ rfl HOX.out (some ⟨wr.heap.size + 1, 0, none⟩) 1 1 _ rfl HWD.out (by unfold maxLen; omega) (by omega) (by simp; omega) ?_; intro v1 wA hA1 gA; obtain ⟨A4, c4, rfl⟩ := own_form hA1; have hm4 := blk_grown HMX.out gA (fun r e => (by have := (HOX.out.lt r e).1; omega)); have m4 : wA.cell? ⟨w1.heap.size, 0, none⟩ = some (.slice Av k cv) := hm4.cell 0; have f4 := hm4.frozen 0; have hl4 := hm4.lt; have HM4 := Lib.hid hm4; have HA1 := Lib.hid hA1; have GA := Lib.hid gA; clear hA1 gA hm4))
      go_roundw
      case rel =>
        have hbA : Below w1.heap.size w1 wA := ((HBE.out.alloc HBE.out.size _).alloc (by simp; omega) _).grown GA.out (by simp; omega) (fun r e => by have := (HOX.out.lt r e).1; omega)
        refine ⟨k + 1, _, by omega, by go_num, ?_, HM4.out.stored 0 _, hbA.setCell (p := ⟨w1.heap.size, 0, none⟩) (by simp) _⟩
        rw [HTK.out, List.flatMap_append]
        exact own_keep1 HA1.out fun g hg hl _ => Below.heap_setCell _ _ _ _ (by dsimp only; omega)
      case measure => simp [intOf]; omega
    · obtain rfl : k = on := by omega
      have hl1 : (ol.map own1).length = k := by rw [List.length_map, HOL.out]
      rw [List.take_of_length_le (by rw [hl1]; exact Nat.le_refl _)] at hown
      obtain ⟨A5, c5, e5, hwd5⟩ := wd_own encSy_length hl1 hown
      injection e5 with e5 _ e6
      subst e5 e6
      have hbw := HB1.out.trans (hbel.mono HB1.out.size)
      have HBW := Lib.hid hbw
      have HM5 := Lib.hid hmb
      have HW5 := Lib.hid hwd5
      have hO5 := H.out.1.below hbw
      have HWL := Lib.hid (show Wd 3 encOb wr wr.heap.size A n c os from hO5.1.more hbw.size)
      have hn6 : n < 6 := by omega
      obtain ⟨om, hom⟩ : ∃ om : Ob, om = ⟨Av, k, cv, ol.map own1, (none, 0, 0), (none, 0, 0)⟩ := ⟨_, rfl⟩
      have HOM := Lib.hid hom
      have HWM := Lib.hid (show ∀ W : World, Wd 3 encOb (W.alloc (.cells #[.slice Av k cv, .slice none 0 0, .slice none 0 0] 40)) (W.alloc (.cells #[.slice Av k cv, .slice none 0 0, .slice none 0 0] 40)).heap.size (some ⟨W.heap.size, 0, none⟩) 1 1 [om] from fun W => by
        have hb : Blk (W.alloc (.cells #[.slice Av k cv, .slice none 0 0, .slice none 0 0] 40)) W.heap.size 40 ([om].flatMap encOb).toArray := by rw [hom]; exact Blk.new W _ _
        exact wd_blk (n := 1) encOb_length hb hb.lt rfl (by omega))
      clear hown hmb hwd5 hbel hbw hO5 hom
      go_wp2_with (at_builtin; go_loud (refine wpList_append_wd _ rfl _ _ 22 rfl wr.heap.size 40 iO (.agg #[.slice none 0 0, .slice none 0 0, .slice none 0 0]) 3 72 Try.underlying22 hiO hz0 hz1 hz2 rfl (by decide) encOb_length encOb_one _ 0 [] rfl (World.ownsRow_nil _ _ _ _) A n c os rfl HWL.out (by unfold maxLen; omega) (by omega) (Nat.le_refl _) ?_; intro v8 wB hB8 gB; rw [Nat.zero_add, List.nil_append] at hB8; obtain ⟨A8, c8, rfl⟩ := own_form hB8; have hmB := blk_grown HM5.out gB (fun r e => by cases e); have m0 : wB.cell? ⟨w1.heap.size, 0, none⟩ = some (.slice Av k cv) := hmB.cell 0; have m1 : wB.cell? ⟨w1.heap.size, 1, none⟩ = some (.slice none 0 0) := hmB.cell 1; have m2 : wB.cell? ⟨w1.heap.size, 2, none⟩ = some (.slice none 0 0) := hmB.cell 2; have HB8 := Lib.hid hB8; have GB := Lib.hid gB; have hsB := gB.size; clear hB8 gB hmB; go_wp2_with (at_builtin; go_loud (refine wpList_append_wd _ rfl _ _ 22 rfl wr.heap.size 40 iO (.agg #[.slice none 0 0, .slice none 0 0, .slice none 0 0]) 3 72 Try.underlying22 hiO hz0 hz1 hz2 rfl (by decide) encOb_length encOb_one _ n _ rfl (own_keep1 HB8.out fun _ _ hl _ => Below.heap_alloc _ _ _ hl) (some ⟨wB.heap.size, 0, none⟩) 1 1 [om] rfl (HWM.out wB) (by unfold maxLen; omega) (by omega) (by simp; omega) ?_; intro v9 wC hC9 gC; obtain ⟨A9, c9, rfl⟩ := own_form hC9; have HC9 := Lib.hid hC9; have GC := Lib.hid gC; clear hC9 gC))))
      · have hnp : 0 < n := by omega
        have hC := HC9.out
        rw [← List.flatMap_append] at hC
        obtain ⟨A10, c10, e10, hwd10⟩ := wd_own encOb_length (l := os ++ [om]) (by rw [List.length_append, H.out.1.1.1]; rfl) hC
        injection e10 with e10 _ e11
        subst e10 e11
        have hbB : Below wr.heap.size wr wB := (Below.refl _ _).grown GB.out (Nat.le_refl _) (fun r e => by cases e)
        have hbC : Below wr.heap.size wr wC := (hbB.alloc hbB.size _).grown GC.out (by have := hbB.size; simp; omega) (fun r e => (HB8.out.lt r e).1)
        have hbw := HBW.out.trans (hbC.mono HBW.out.size)
        have hoa := obL_more H.out.1 (Nat.le_refl _) hbw (o := om) (by rw [HOM.out]; exact (HW5.out.below hbC).more hbC.size) hwd10
        have hn0 := nmp_of H.out HPP.out.n9 (fun i hi => (HPP.out.each i hi).1) (by omega)
        have hna : NmP (os ++ [om]) := nmp_more hn0 (allS_few H.out HPP.out.n9 fun i hi => (HPP.out.each i hi).1) (by rw [HOM.out]; exact own1_names HN.out) (by rw [HOM.out]; dsimp only; omega)
        have mf := more_facts (os := os) (o := om) (L := lists os) rfl (l := ol) (by rw [HOM.out]) (n := n) (by rw [lists_length, H.out.1.1.1]) hn6
        have HBO := Lib.hid (fun W (hb : Below wC.heap.size wC W) f s a b e a' ha hr => bound_as (L := lists os) rfl (H.out.1.below (hbw.trans (hb.mono hbw.size))) (Nat.le_trans hbw.size hb.size) hn0 f s a b e a' ha hr)
        have HBA := Lib.hid (fun W (hb : Below wC.heap.size wC W) f s a b e a' ha hr => bound_as (L := lists (os ++ [om])) rfl ((hoa.below hb).more hb.size) (Nat.le_refl _) hna f s a b e a' ha hr)
        have HFS := Lib.hid (fun W (hb : Below wC.heap.size wC W) => fs_of (H.out.1.below (hbw.trans (hb.mono hbw.size))))
        have HMF := Lib.hid mf
        have HBWC := Lib.hid hbw
        obtain ⟨⟨ca, cb, cd⟩, hcv⟩ : ∃ cv, checkV (lists os) = cv := ⟨_, rfl⟩
        have HCA := Lib.hid (fun W (hb : Below wC.heap.size wC W) => check_as ((hoa.below hb).more hb.size) (Nat.le_refl _) hna ca cb cd (by rw [mf.1 (by omega)]; exact hcv))
        have HCL := Lib.hid (fun W (hb : Below wC.heap.size wC W) => check_as (H.out.1.below (hbw.trans (hb.mono hbw.size))) (Nat.le_trans hbw.size hb.size) hn0 ca cb cd hcv)
        clear hC hwd10 hbB hbC hbw hoa hn0 hna mf hcv
        go_wp2_with (go_at_call 14; refine (HCA.out wC (Below.refl _ _)).mono ?_; rintro e w12 ⟨rfl, b12⟩; have HB12 := Lib.hid b12; clear b12; go_wp2_with (go_at_call 14; refine (HCL.out w12 HB12.out).mono ?_; rintro e w13 ⟨rfl, b13⟩; have HB13 := Lib.hid (HB12.out.trans (b13.mono HB12.out.size)); clear b13))
        obtain ⟨wq, hwq⟩ : ∃ wq, wq = wr := ⟨_, rfl⟩
        subst hwq
        go_loopw [9] (fun i wr => ∃ i' : Nat, i' ≤ n ∧ i = .int .i64 (i' : Int) ∧ Below wC.heap.size wC wr) (fun i _ => n - (intOf i).toNat)
        case atStart => exact ⟨0, Nat.zero_le _, rfl, HB13.out⟩
        case round =>
          obtain ⟨i, hi, rfl, hbel⟩ := hrel
          by_cases hlt2 : i < n
          · have hiI : (i : Int) < (n : Int) := by omega
            have hi0 : (0 : Int) ≤ (i : Int) := by omega
            obtain ⟨ln, hln⟩ : ∃ ln, (rowS (lists os) i).length = ln := ⟨_, rfl⟩
            have HLN := Lib.hid hln
            have hlnm : ln ≤ 9223372036854775807 := by
              obtain ⟨_, _, _, _, _, _, _, _, _, _, _, _, _, _, _, h1, h2, _⟩ := (HFS.out _ hbel).row i hlt2
              omega
            have HBL := Lib.hid hbel
            obtain ⟨wz, hwz⟩ : ∃ wz, wz = wr := ⟨_, rfl⟩
            subst hwz
            clear hbel hln
            go_wp2_with fail
            go_loopw [10] (fun i wr => ∃ j : Nat, j ≤ ln ∧ i = .int .i64 (j : Int) ∧ Below wC.heap.size wC wr) (fun i _ => ln - (intOf i).toNat)
            case atStart => exact ⟨0, Nat.zero_le _, rfl, HBL.out⟩
            case round =>
              obtain ⟨j, hj, rfl, hbel⟩ := hrel
              obtain ⟨ad, oA', on', oc', fA', fn', fc', dA', dn', dc', rfl, hblk, c0, c1, c2, h1, h2, h3⟩ := (HFS.out wr hbel).row i hlt2
              obtain rfl : on' = ln := by rw [← h1, HLN.out]
              clear h1 h2 h3 c1 c2
              by_cases hjl : j < on'
              · have hjI : (j : Int) < (on' : Int) := by omega
                have hj0 : (0 : Int) ≤ (j : Int) := by omega
                have hbe := HMF.out.2 i j hlt2 (by rw [HLN.out]; exact hjl)
                obtain ⟨⟨⟨a, b⟩, e⟩, hr⟩ : ∃ r, boundV (lists os) (i : Int) (j : Int) = r := ⟨_, rfl⟩
                rw [hr] at hbe
                have HC1 := Lib.hid (fun W hb => HBO.out W hb _ _ a b e _ rfl hr)
                have HC2 := Lib.hid (fun W hb => HBA.out W hb _ _ a b e _ rfl hbe)
                have HBE2 := Lib.hid hbel
                clear hbe hr hbel
                go_wp2_with (go_at_call 10; refine (HC1.out wr HBE2.out).mono ?_; rintro e w14 ⟨rfl, b14⟩; have HB14 := Lib.hid (HBE2.out.trans (b14.mono HBE2.out.size)); clear b14; go_wp2_with (go_at_call 10; refine (HC2.out w14 HB14.out).mono ?_; rintro e w15 ⟨rfl, b15⟩; have HB15 := Lib.hid (HB14.out.trans (b15.mono HB14.out.size)); clear b15))
                go_roundw
                case rel => exact ⟨j + 1, by omega, by go_num, HB15.out⟩
                case measure => simp [intOf]; omega
              · obtain rfl : j = on' := by omega
                go_wp2_with fail
                go_roundw
                case rel => exact ⟨i + 1, by omega, by go_num, hbel⟩
                case measure => simp [intOf]; omega
          · obtain rfl : i = n := by omega
            go_wp2_with (go_at_call 7; refine (HK.out _).mono ?_; rintro e w9 ⟨rfl, b9⟩; have HB9 := Lib.hid ((HBWC.out.trans (hbel.mono HBWC.out.size)).trans (b9.mono (Nat.le_trans HBWC.out.size hbel.size))); clear b9)
            go_ret
            exact ⟨rfl, HB9.out⟩
      · have hC := HC9.out
        rw [← List.flatMap_append] at hC
        obtain ⟨A10, c10, e10, hwd10⟩ := wd_own encOb_length (l := os ++ [om]) (by rw [List.length_append, H.out.1.1.1]; rfl) hC
        injection e10 with e10 _ e11
        subst e10 e11
        have hbB : Below wr.heap.size wr wB := (Below.refl _ _).grown GB.out (Nat.le_refl _) (fun r e => by cases e)
        have hbC : Below wr.heap.size wr wC := (hbB.alloc hbB.size _).grown GC.out (by have := hbB.size; simp; omega) (fun r e => (HB8.out.lt r e).1)
        have hbw := HBW.out.trans (hbC.mono HBW.out.size)
        have hoa := obL_more H.out.1 (Nat.le_refl _) hbw (o := om) (by rw [HOM.out]; exact (HW5.out.below hbC).more hbC.size) hwd10
        have hn0 := nmp_of H.out HPP.out.n9 (fun i hi => (HPP.out.each i hi).1) (by omega)
        have hna : NmP (os ++ [om]) := nmp_more hn0 (allS_few H.out HPP.out.n9 fun i hi => (HPP.out.each i hi).1) (by rw [HOM.out]; exact own1_names HN.out) (by rw [HOM.out]; dsimp only; omega)
        have mf := more_facts (os := os) (o := om) (L := lists os) rfl (l := ol) (by rw [HOM.out]) (n := n) (by rw [lists_length, H.out.1.1.1]) hn6
        have HBO := Lib.hid (fun W (hb : Below wC.heap.size wC W) f s a b e a' ha hr => bound_as (L := lists os) rfl (H.out.1.below (hbw.trans (hb.mono hbw.size))) (Nat.le_trans hbw.size hb.size) hn0 f s a b e a' ha hr)
        have HBA := Lib.hid (fun W (hb : Below wC.heap.size wC W) f s a b e a' ha hr => bound_as (L := lists (os ++ [om])) rfl ((hoa.below hb).more hb.size) (Nat.le_refl _) hna f s a b e a' ha hr)
        have HFS := Lib.hid (fun W (hb : Below wC.heap.size wC W) => fs_of (H.out.1.below (hbw.trans (hb.mono hbw.size))))
        have HMF := Lib.hid mf
        have HBWC := Lib.hid hbw
        clear hC hwd10 hbB hbC hbw hoa hn0 hna mf
        have HB13 := Lib.hid (Below.refl wC.heap.size wC)
        obtain ⟨wq, hwq⟩ : ∃ wq, wq = wr := ⟨_, rfl⟩
        subst hwq
        go_loopw [9] (fun i wr => ∃ i' : Nat, i' ≤ n ∧ i = .int .i64 (i' : Int) ∧ Below wC.heap.size wC wr) (fun i _ => n - (intOf i).toNat)
        case atStart => exact ⟨0, Nat.zero_le _, rfl, HB13.out⟩
        case round =>
          obtain ⟨i, hi, rfl, hbel⟩ := hrel
          by_cases hlt2 : i < n
          · exact absurd hlt2 (by omega)
          · obtain rfl : i = n := by omega
            go_wp2_with (go_at_call 7; refine (HK.out _).mono ?_; rintro e w9 ⟨rfl, b9⟩; have HB9 := Lib.hid ((HBWC.out.trans (hbel.mono HBWC.out.size)).trans (b9.mono (Nat.le_trans HBWC.out.size hbel.size))); clear b9)
            go_ret
            exact ⟨rfl, HB9.out⟩
end Go.Proofs.Ytmabenffdpipmaa.By
