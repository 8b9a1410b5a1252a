/-
  WALK of layer 6: the law QueuePlays.
-/
import Derived.Test.YtajlbiohaafpnaaQi
namespace Go.Proofs.Ytajlbiohaafpnaa.Qu
open Go.RowKit Go.Maps
open Mem Hp

set_option maxHeartbeats 20000000 in
set_option maxRecDepth 100000 in
theorem plays_law (w : World) (A : Option Addr) (len cap : Nat) (K : Nat → Int) (M : Nat → It) (hM : Moves w A len cap K M) :
    Calls Try.prog 3 #[.slice A len cap] w fun e w' => e = .returned (.bool true) ∧ Below w.heap.size w w' := by
  by_cases hbig : 200 < len
  · have hd : decide (200 < (len : Int)) = true := by simp; omega
    clear hM hbig
    go_enter Try.func3, Try.ntmps3
    go_wp2_with fail
    refine (known_any _).mono ?_
    rintro e w1 ⟨rfl, hb⟩
    go_wp2_with fail
    go_ret
    exact ⟨rfl, hb⟩
  · have hl : len ≤ 200 := by omega
    have hd : decide (200 < (len : Int)) = false := by simp; omega
    have HM := Lib.hid hM
    clear hM hbig
    go_enter Try.func3, Try.ntmps3
    go_wp2_with fail
    refine (new_any w).mono ?_
    rintro e w0 ⟨rfl, hq0, hb0⟩
    have H0 := Lib.hid (own_new hq0 hb0)
    clear hq0 hb0
    generalize (fun b => w.heap.size ≤ b ∧ b < w.heap.size + 2) = U at H0
    generalize hq : w.heap.size + 2 = q at H0 ⊢
    clear hq
    have HP0 : Hid (Play w.heap.size w w0 q U 0 (fun _ => False) (.slice none 0 0) []) := Lib.hid ⟨H0.out, .empty none 0 (by unfold maxLen; omega), List.Pairwise.nil, fun x => by simp, rfl⟩
    clear H0
    go_wp2_with fail
    go_loopw [4, 5] (fun a4 a5 wr => ∃ (i n : Nat) (U : Nat → Prop) (S : It → Prop) (v : Value) (l : List It), a4 = v ∧ i ≤ len ∧ a5 = .int .i64 i ∧ n ≤ i ∧ Hid (Play w.heap.size w wr q U n S v l)) (fun _ u _ => len - (intOf u).toNat)
    case atStart => exact ⟨0, 0, U, _, _, _, rfl, by omega, rfl, by omega, HP0⟩
    case round =>
      obtain ⟨i, n, U, S, v, l, e4, hi, rfl, hni, HP⟩ := hrel
      have e4' := e4.symm
      clear e4 HP0
      subst e4'
      by_cases hlt : i < len
      · obtain ⟨x, rfl, ⟨c0, c1, c2⟩, k0, k1, k2⟩ := (HM.out.below (HP.out.own.bel)).at_ hlt
        have HX := Lib.hid (And.intro k1 k2)
        clear k0 k1 k2
        generalize K i = kd at c0
        generalize M i = xm at c1 c2 HX
        have hlt1 : (i : Int) < (len : Int) := by omega
        have hi0 : (0 : Int) ≤ (i : Int) := by omega
        obtain ⟨W0, hW0⟩ : ∃ W0, wr.alloc (.cells #[.int .i64 kd, .int .i64 xm.1, .int .i64 xm.2] 28) = W0 := ⟨_, rfl⟩
        obtain ⟨b, hb⟩ : ∃ b, wr.heap.size = b := ⟨_, rfl⟩
        have HB : Hid (Blk W0 b 28 #[.int .i64 kd, .int .i64 xm.1, .int .i64 xm.2]) := Lib.hid (by rw [← hW0, ← hb]; exact Blk.new _ _ _)
        have HP0 : Hid (Play w.heap.size w W0 q U n S v l) := Lib.hid (by rw [← hW0]; exact HP.out.below ((Below.refl _ _).alloc (Nat.le_refl _) _))
        have HBU : Hid (¬ U b) := Lib.hid (fun hu => by have := HP.out.own.qs.lt.2 _ hu; omega)
        have m0 : W0.cell? ⟨b, 0, none⟩ = some (.int .i64 kd) := by rw [HB.out.cell]; rfl
        have m1 : W0.cell? ⟨b, 1, none⟩ = some (.int .i64 xm.1) := by rw [HB.out.cell]; rfl
        have m2 : W0.cell? ⟨b, 2, none⟩ = some (.int .i64 xm.2) := by rw [HB.out.cell]; rfl
        have HQ := Lib.hid (HP0.out.own.qs)
        have HLN := Lib.hid (HP0.out.len)
        have few : n ≤ 200 := by omega
        clear HP
        have hkd : kd = 0 ∨ kd = 1 ∨ (kd ≠ 0 ∧ kd ≠ 1) := by omega
        by_cases hy : ∃ y, S y ∧ y.1 = xm.1
        · have HY := Lib.hid hy
          obtain ⟨k, hk, hka, hkn⟩ := HP0.out.place hy
          have hkN : k < n := by have := HLN.out; omega
          have HSk : Hid (S l[k]) := Lib.hid ((HP0.out.mem _).2 (List.getElem_mem hk))
          have HAT := Lib.hid (at_yes W0 _ v l HP0.out.lst (by rw [HLN.out]; omega) k hk xm.1 hka hkn)
          have HKEY := Lib.hid (key_yes W0 q U n S HQ.out l[k] HSk.out)
          rw [hka] at HKEY
          have HPN := Lib.hid (rput_no W0 _ v l HP0.out.lst (by rw [HLN.out]; omega) k hk xm.1 xm.2 hka hkn)
          obtain ⟨g, off, c, rfl, hF, hc, hm, hcell⟩ := HP0.out.lst.there (by omega)
          have hcl := HLN.out
          rw [hcl] at hc HAT HPN ⊢
          have g1 := (hcell k _ (List.getElem?_eq_getElem hk)).2
          have HKA := Lib.hid (And.intro hka HSk.out)
          generalize l[k] = y at HKEY g1 HKA
          have HPV : Hid (Play w.heap.size w W0 q U n S (.slice (some ⟨g, off, none⟩) n c) l) := Lib.hid (by have := HP0.out; rwa [hcl] at this)
          have hk0 : (0 : Int) ≤ (k : Int) := by omega
          have hk1 : (k : Int) < (n : Int) := by omega
          unfold maxLen at hm
          clear hka hkn hk hcell hcl hy HY HSk HP0
          rcases hkd with rfl | rfl | hk2
          · have HLQ := Lib.hid (qlen_any W0 q U n S HQ.out)
            have HPU := Lib.hid (put_no W0 q U n S HQ.out xm.1 xm.2 y HKA.out.2 HKA.out.1)
            go_wp2_with fail
            refine HAT.out.mono ?_
            rintro e w' ⟨rfl, rfl⟩
            go_wp2_with fail
            refine HKEY.out.mono ?_
            rintro e w' ⟨rfl, rfl⟩
            go_wp2_with fail
            refine HPU.out.mono ?_
            rintro e w' ⟨rfl, rfl⟩
            go_wp2_with fail
            refine HPN.out.mono ?_
            rintro e w' ⟨rfl, rfl⟩
            go_wp2_with fail
            refine HLQ.out.mono ?_
            rintro e w' ⟨rfl, rfl⟩
            go_wp2_with fail
            go_roundw
            case rel => exact ⟨i + 1, n, U, S, _, _, rfl, by omega, by go_num, by omega, HPV⟩
            case measure => simp [intOf]; omega
          · obtain ⟨n, rfl⟩ : ∃ n', n = n' + 1 := ⟨n - 1, by omega⟩
            have HTK := Lib.hid (take_yes W0 q U n S HQ.out)
            obtain ⟨h, t, rfl⟩ : ∃ h t, l = h :: t := by
              cases l with
              | nil => have := HLN.out; simp at this
              | cons h t => exact ⟨h, t, rfl⟩
            have HHD : Hid (∀ y, S y → (∀ z, S z → le y z) → y = h) := Lib.hid (fun y h1 h2 => play_head HPV.out rfl h1 h2)
            have HT := Lib.hid (HPV.out.lst)
            obtain ⟨g', off', c', e', hF', hc', hm', hcell'⟩ := HPV.out.lst.there (by simp)
            simp only [Value.slice.injEq, Option.some.injEq, Addr.mk.injEq, and_true] at e'
            obtain ⟨⟨rfl, rfl⟩, -, rfl⟩ := e'
            have HH := Lib.hid (hcell' 0 h rfl)
            have HF := Lib.hid hF'.1
            have hn0 : (0 : Int) < (n : Int) + 1 := by omega
            clear hF' hc' hm' hcell'
            go_wp2_with fail
            refine HAT.out.mono ?_
            rintro e w' ⟨rfl, rfl⟩
            go_wp2_with fail
            refine HKEY.out.mono ?_
            rintro e w' ⟨rfl, rfl⟩
            go_wp2_with fail
            refine HTK.out.mono ?_
            rintro e w1 ⟨x0, rfl, hSx, hle, hq1, ht1⟩
            obtain rfl := HHD.out x0 hSx hle
            have f0 : w1.cell? ⟨g, off, none⟩ = some (.int .i64 x0.1) := ht1.cell (p := ⟨g, off, none⟩) HH.out.1 HF.out
            have f1 : w1.cell? ⟨g, off + 1, none⟩ = some (.int .i64 x0.2) := ht1.cell (p := ⟨g, off + 1, none⟩) HH.out.2 HF.out
            have HLQ := Lib.hid (qlen_any w1 q U n _ hq1)
            have HL1 := Lib.hid (HPV.out.turned ht1)
            have HQ1 := Lib.hid hq1
            have HT1 := Lib.hid ht1
            clear hSx hle hq1 ht1
            by_cases hc1 : c = 1
            · subst hc1
              obtain rfl : n = 0 := by omega
              have HPE : Hid (Play w.heap.size w w1 q U 0 (fun y => S y ∧ y ≠ x0) (.slice (some ⟨g, off, none⟩) 0 0) t) := Lib.hid (by
                obtain rfl : t = [] := by have := HLN.out; simp at this; exact this
                exact play_take HPV.out HQ1.out HT1.out (.empty _ 0 (by unfold maxLen; omega)))
              go_wp2_with fail
              refine HLQ.out.mono ?_
              rintro e w' ⟨rfl, rfl⟩
              go_wp2_with fail
              go_roundw
              case rel => exact ⟨i + 1, 0, U, _, _, _, rfl, by omega, by go_num, by omega, HPE⟩
              case measure => simp [intOf]; omega
            · have hcc : ¬ (1 : Int) = (c : Int) := by omega
              have hcc2 : 1 < c := by omega
              have hcn : ¬ (1 : Nat) = c := by omega
              have HPE : Hid (Play w.heap.size w w1 q U n (fun y => S y ∧ y ≠ x0) (.slice (some ⟨g, off + 2, none⟩) n (c - 1)) t) := Lib.hid (by
                have hln : t.length = n := by have := HLN.out; simp at this; omega
                have := HL1.out.rest (some ⟨g, off + 2, none⟩) (fun _ => rfl)
                rw [hln] at this
                exact play_take HPV.out HQ1.out HT1.out this)
              go_wp2_with fail
              refine HLQ.out.mono ?_
              rintro e w' ⟨rfl, rfl⟩
              go_wp2_with fail
              go_roundw
              case rel => exact ⟨i + 1, n, U, _, _, _, rfl, by omega, by go_num, by omega, HPE⟩
              case measure => simp [intOf]; omega
          · have q0 : (kd == 0) = false := by simpa using hk2.1
            have q1 : (kd == 1) = false := by simpa using hk2.2
            clear hk2
            obtain ⟨n, rfl⟩ : ∃ n', n = n' + 1 := ⟨n - 1, by omega⟩
            have HDR := Lib.hid (drop_yes W0 q U n S HQ.out xm.1 y HKA.out.2 HKA.out.1)
            have HSL : Hid ((strike xm.1 l).length = n) := Lib.hid (by
              have := strike_one xm.1 l HPV.out.apart y ((HPV.out.mem y).1 HKA.out.2) HKA.out.1
              have := HLN.out
              omega)
            go_wp2_with fail
            refine HAT.out.mono ?_
            rintro e w' ⟨rfl, rfl⟩
            go_wp2_with fail
            refine HKEY.out.mono ?_
            rintro e w' ⟨rfl, rfl⟩
            go_wp2_with fail
            refine HDR.out.mono ?_
            rintro e w1 ⟨rfl, hq1, ht1⟩
            have HRD := Lib.hid (rdrop_any w1 _ _ l (HPV.out.turned ht1) (by rw [HLN.out]; omega) xm.1)
            have f0 : w1.cell? ⟨b, 0, none⟩ = some (.int .i64 kd) := ht1.cell (p := ⟨b, 0, none⟩) m0 HBU.out
            have f1 : w1.cell? ⟨b, 1, none⟩ = some (.int .i64 xm.1) := ht1.cell (p := ⟨b, 1, none⟩) m1 HBU.out
            have HQ1 := Lib.hid hq1
            have HT1 := Lib.hid ht1
            clear hq1 ht1
            go_wp2_with fail
            refine HRD.out.mono ?_
            rintro e w2 ⟨v2, rfl, hm2⟩
            have HPE := Lib.hid (play_drop HPV.out HQ1.out HT1.out HSL.out hm2)
            have HLQ := Lib.hid (qlen_any w2 q U n _ HPE.out.own.qs)
            obtain ⟨A2, c2', e2⟩ := hm2.form
            rw [HSL.out] at e2
            rw [HSL.out, HLN.out, show decide (n < n + 1) = true by simp]
            clear hm2
            subst e2
            go_wp2_with fail
            refine HLQ.out.mono ?_
            rintro e w' ⟨rfl, rfl⟩
            go_wp2_with fail
            go_roundw
            case rel => exact ⟨i + 1, n, U, _, _, _, rfl, by omega, by go_num, by omega, HPE⟩
            case measure => simp [intOf]; omega
        · have HY := Lib.hid (show ∀ y, S y → y.1 ≠ xm.1 from fun y h1 h2 => hy ⟨y, h1, h2⟩)
          have HAT := Lib.hid (at_no W0 _ v l HP0.out.lst (by rw [HLN.out]; omega) xm.1 (fun j hj => HY.out _ ((HP0.out.mem _).2 (List.getElem_mem hj))))
          have HKEY := Lib.hid (key_no W0 q U n S HQ.out xm.1 HX.out.1 HY.out)
          obtain ⟨A4, c, rfl, hm, hc⟩ := HP0.out.lst.form
          have hcl := HLN.out
          rw [hcl] at hc HAT ⊢
          have HPV : Hid (Play w.heap.size w W0 q U n S (.slice A4 n c) l) := Lib.hid (by have := HP0.out; rwa [hcl] at this)
          unfold maxLen at hm
          clear hy hcl HP0
          rcases hkd with rfl | rfl | hk2
          · have HPU := Lib.hid (put_yes W0 q U n S HQ.out xm HX.out (by omega) HY.out)
            go_wp2_with fail
            refine HAT.out.mono ?_
            rintro e w' ⟨rfl, rfl⟩
            go_wp2_with fail
            refine HKEY.out.mono ?_
            rintro e w' ⟨rfl, rfl⟩
            go_wp2_with fail
            refine HPU.out.mono ?_
            rintro e w1 ⟨rfl, hq1, ht1⟩
            have HRP := Lib.hid (rput_yes w1 _ _ l (HPV.out.grown ht1) (by rw [HLN.out]; omega) xm (fun j hj => HY.out _ ((HPV.out.mem _).2 (List.getElem_mem hj))))
            have f0 : w1.cell? ⟨b, 0, none⟩ = some (.int .i64 0) := ht1.cell (p := ⟨b, 0, none⟩) m0 HBU.out
            have f1 : w1.cell? ⟨b, 1, none⟩ = some (.int .i64 xm.1) := ht1.cell (p := ⟨b, 1, none⟩) m1 HBU.out
            have f2 : w1.cell? ⟨b, 2, none⟩ = some (.int .i64 xm.2) := ht1.cell (p := ⟨b, 2, none⟩) m2 HBU.out
            have HQ1 := Lib.hid hq1
            have HT1 := Lib.hid ht1
            clear hq1 ht1
            go_wp2_with fail
            refine HRP.out.mono ?_
            rintro e w2 ⟨v2, rfl, hm2⟩
            have HPE := Lib.hid (play_put HPV.out HQ1.out HT1.out HY.out hm2)
            have HLQ := Lib.hid (qlen_any w2 q _ (n + 1) _ HPE.out.own.qs)
            obtain ⟨A2, c2', e2⟩ := hm2.form
            rw [insL_len, HLN.out] at e2
            clear hm2
            subst e2
            go_wp2_with fail
            refine HLQ.out.mono ?_
            rintro e w' ⟨rfl, rfl⟩
            go_wp2_with fail
            go_roundw
            case rel => exact ⟨i + 1, n + 1, _, _, _, _, rfl, by omega, by go_num, by omega, HPE⟩
            case measure => simp [intOf]; omega
          · by_cases hn0 : n = 0
            · subst hn0
              have HLQ := Lib.hid (qlen_any W0 q U 0 S HQ.out)
              have HTK := Lib.hid (take_no W0 q U S HQ.out)
              go_wp2_with fail
              refine HAT.out.mono ?_
              rintro e w' ⟨rfl, rfl⟩
              go_wp2_with fail
              refine HKEY.out.mono ?_
              rintro e w' ⟨rfl, rfl⟩
              go_wp2_with fail
              refine HTK.out.mono ?_
              rintro e w' ⟨rfl, rfl⟩
              go_wp2_with fail
              refine HLQ.out.mono ?_
              rintro e w' ⟨rfl, rfl⟩
              go_wp2_with fail
              go_roundw
              case rel => exact ⟨i + 1, 0, U, S, _, _, rfl, by omega, by go_num, by omega, HPV⟩
              case measure => simp [intOf]; omega
            · obtain ⟨g, off, c'', e4, -⟩ := HPV.out.lst.there (by rw [HLN.out]; omega)
              simp only [Value.slice.injEq] at e4
              obtain ⟨rfl, -, rfl⟩ := e4
              obtain ⟨n, rfl⟩ : ∃ n', n = n' + 1 := ⟨n - 1, by omega⟩
              have HTK := Lib.hid (take_yes W0 q U n S HQ.out)
              obtain ⟨h, t, rfl⟩ : ∃ h t, l = h :: t := by
                cases l with
                | nil => have := HLN.out; simp at this
                | cons h t => exact ⟨h, t, rfl⟩
              have HHD : Hid (∀ y, S y → (∀ z, S z → le y z) → y = h) := Lib.hid (fun y h1 h2 => play_head HPV.out rfl h1 h2)
              have HT := Lib.hid (HPV.out.lst)
              obtain ⟨g', off', c', e', hF', hc', hm', hcell'⟩ := HPV.out.lst.there (by simp)
              simp only [Value.slice.injEq, Option.some.injEq, Addr.mk.injEq, and_true] at e'
              obtain ⟨⟨rfl, rfl⟩, -, rfl⟩ := e'
              have HH := Lib.hid (hcell' 0 h rfl)
              have HF := Lib.hid hF'.1
              have hn0 : (0 : Int) < (n : Int) + 1 := by omega
              clear hF' hc' hm' hcell'
              go_wp2_with fail
              refine HAT.out.mono ?_
              rintro e w' ⟨rfl, rfl⟩
              go_wp2_with fail
              refine HKEY.out.mono ?_
              rintro e w' ⟨rfl, rfl⟩
              go_wp2_with fail
              refine HTK.out.mono ?_
              rintro e w1 ⟨x0, rfl, hSx, hle, hq1, ht1⟩
              obtain rfl := HHD.out x0 hSx hle
              have f0 : w1.cell? ⟨g, off, none⟩ = some (.int .i64 x0.1) := ht1.cell (p := ⟨g, off, none⟩) HH.out.1 HF.out
              have f1 : w1.cell? ⟨g, off + 1, none⟩ = some (.int .i64 x0.2) := ht1.cell (p := ⟨g, off + 1, none⟩) HH.out.2 HF.out
              have HLQ := Lib.hid (qlen_any w1 q U n _ hq1)
              have HL1 := Lib.hid (HPV.out.turned ht1)
              have HQ1 := Lib.hid hq1
              have HT1 := Lib.hid ht1
              clear hSx hle hq1 ht1
              by_cases hc1 : c = 1
              · subst hc1
                obtain rfl : n = 0 := by omega
                have HPE : Hid (Play w.heap.size w w1 q U 0 (fun y => S y ∧ y ≠ x0) (.slice (some ⟨g, off, none⟩) 0 0) t) := Lib.hid (by
                  obtain rfl : t = [] := by have := HLN.out; simp at this; exact this
                  exact play_take HPV.out HQ1.out HT1.out (.empty _ 0 (by unfold maxLen; omega)))
                go_wp2_with fail
                refine HLQ.out.mono ?_
                rintro e w' ⟨rfl, rfl⟩
                go_wp2_with fail
                go_roundw
                case rel => exact ⟨i + 1, 0, U, _, _, _, rfl, by omega, by go_num, by omega, HPE⟩
                case measure => simp [intOf]; omega
              · have hcc : ¬ (1 : Int) = (c : Int) := by omega
                have hcc2 : 1 < c := by omega
                have hcn : ¬ (1 : Nat) = c := by omega
                have HPE : Hid (Play w.heap.size w w1 q U n (fun y => S y ∧ y ≠ x0) (.slice (some ⟨g, off + 2, none⟩) n (c - 1)) t) := Lib.hid (by
                  have hln : t.length = n := by have := HLN.out; simp at this; omega
                  have := HL1.out.rest (some ⟨g, off + 2, none⟩) (fun _ => rfl)
                  rw [hln] at this
                  exact play_take HPV.out HQ1.out HT1.out this)
                go_wp2_with fail
                refine HLQ.out.mono ?_
                rintro e w' ⟨rfl, rfl⟩
                go_wp2_with fail
                go_roundw
                case rel => exact ⟨i + 1, n, U, _, _, _, rfl, by omega, by go_num, by omega, HPE⟩
                case measure => simp [intOf]; omega
          · have q0 : (kd == 0) = false := by simpa using hk2.1
            have q1 : (kd == 1) = false := by simpa using hk2.2
            clear hk2
            have HDR := Lib.hid (drop_no W0 q U n S HQ.out xm.1 HX.out.1 HY.out)
            have HNL : Hid (∀ z, z ∈ l → z.1 ≠ xm.1) := Lib.hid (fun z hz => HY.out z ((HPV.out.mem z).2 hz))
            have HRD := Lib.hid (rdrop_any W0 _ _ l HPV.out.lst (by rw [HLN.out]; omega) xm.1)
            have HSL : Hid ((strike xm.1 l).length = n) := Lib.hid (by rw [strike_id xm.1 l HNL.out, HLN.out])
            go_wp2_with fail
            refine HAT.out.mono ?_
            rintro e w' ⟨rfl, rfl⟩
            go_wp2_with fail
            refine HKEY.out.mono ?_
            rintro e w' ⟨rfl, rfl⟩
            go_wp2_with fail
            refine HDR.out.mono ?_
            rintro e w' ⟨rfl, rfl⟩
            go_wp2_with fail
            refine HRD.out.mono ?_
            rintro e w2 ⟨v2, rfl, hm2⟩
            have HPE := Lib.hid (play_stay HPV.out HNL.out hm2)
            have HLQ := Lib.hid (qlen_any w2 q U n _ HPE.out.own.qs)
            obtain ⟨A2, c2', e2⟩ := hm2.form
            rw [HSL.out] at e2
            rw [HSL.out, HLN.out, show decide (n < n) = false by simp]
            clear hm2
            subst e2
            go_wp2_with fail
            refine HLQ.out.mono ?_
            rintro e w' ⟨rfl, rfl⟩
            go_wp2_with fail
            go_roundw
            case rel => exact ⟨i + 1, n, U, _, _, _, rfl, by omega, by go_num, by omega, HPE⟩
            case measure => simp [intOf]; omega
      · obtain rfl : i = len := by omega
        have HK := Lib.hid (known_any wr)
        obtain ⟨A4, c, rfl, hm, hc⟩ := HP.out.lst.form
        go_wp2_with fail
        refine HK.out.mono ?_
        rintro e w4 ⟨rfl, hb4⟩
        have HW := Lib.hid (HP.out.own.bel.trans (hb4.mono HP.out.own.size))
        clear hb4
        go_wp2_with fail
        go_ret
        exact ⟨rfl, HW.out⟩
end Go.Proofs.Ytajlbiohaafpnaa.Qu
