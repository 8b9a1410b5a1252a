/-
  WALK: there and back.
-/
import Derived.Test.YtnplhpbbdgnmiaaDoorMh
import Derived.Test.YtnplhpbbdgnmiaaDoorMl
namespace Go.Proofs.YtnplhpbbdgnmiaaDoor.Ln
open Go.RowKit
open Mem Go.Lib

set_option maxRecDepth 100000 in
set_option maxHeartbeats 8000000 in
theorem back_law (o a b c n : Int) (m : Int) (A : Option Addr) (N cp : Nat) (l : List ByteArray) (bl : Int) (w : World) (ha : I64 a) (hb : I64 b) (hc : I64 c) (hn : I64 n) (hm : I64 m) (hbl : 0 ≤ bl ∧ bl ≤ 255) (hN : l.length = N) (hl : SlV w w.heap.size (.slice A N cp) (strs l)) (hw : Wl w) :
    Calls Tryd.prog 3 #[.agg #[.int .i64 o, .int .i64 a, .int .i64 b, .int .i64 c, .int .i64 n], .int .i64 m, .slice A N cp, .int .u8 bl] w (TrueAns w) := by
  obtain ⟨i0, hi0, hz0, hz1, hz2⟩ := info_parts infoS
  have HW := Lib.hid hw
  have HL := Lib.hid hl
  have HK := Lib.hid known_any
  have H64 := Lib.hid (opd_i64 ha hb hc hn)
  have B0 := Lib.hid ((Below.refl w.heap.size w).alloc (Nat.le_refl _) (.cells #[.int .i64 o, .int .i64 a, .int .i64 b, .int .i64 c, .int .i64 n] 23))
  have X0 := Lib.hid (Blk.new w 23 #[.int .i64 o, .int .i64 a, .int .i64 b, .int .i64 c, .int .i64 n])
  have HF := Lib.hid (few_any (w.alloc (.cells #[.int .i64 o, .int .i64 a, .int .i64 b, .int .i64 c, .int .i64 n] 23)) N cp A l hN ((hl.below B0.out).more (by simp)))
  have HT := Lib.hid (fun W h => text_any o a b c n ha hb hc hn W (Wl.tb h) (Wl.bt h) (Wl.st h))
  unfold XAns at HT
  have HM := Lib.hid hm
  clear hw hl ha hb hc hn hm
  go_enter Tryd.func3, Tryd.ntmps3
  go_wp2_with fail
  refine HF.out.mono ?_
  rintro e w1 ⟨fw, rfl, hfew, rfl⟩
  cases fw with
  | false =>
    clear hfew
    go_wp2_with fail
    refine (HK.out _ (HW.out.below B0.out)).mono ?_
    rintro e w1 ⟨rfl, hb⟩
    have HB := Lib.hid (B0.out.trans (hb.mono B0.out.size))
    clear hb
    go_wp2_with fail
    go_ret
    exact ⟨rfl, HB.out⟩
  | true =>
    have HFW := Lib.hid (hfew rfl)
    clear hfew
    go_wp2_with fail
    refine (HT.out _ (HW.out.below B0.out)).mono ?_
    rintro e w2 ⟨rfl, hb⟩
    have X2 := Lib.hid (X0.out.below hb (by simp))
    have B2 := Lib.hid (B0.out.trans (hb.mono B0.out.size))
    clear hb X0 B0 HT HF
    have HDE := Lib.hid (fun W h => decimal_any m HM.out.1 HM.out.2 W (Wl.tb h))
    have HNU := Lib.hid (fun W (h : Wl W) => by have h2 := number_any (decB m) W (by have := dec_size HM.out; omega) h.er h.tb; unfold NAns at h2; rw [numV_yes HM.out rfl] at h2; exact h2)
    have HRW := Lib.hid (fun (y : ByteArray) W (hy : y.size ≤ 100) => rwords_any y W (by omega))
    have HJ := Lib.hid (fun W (hf : Few l 40 100) (h : SlV W W.heap.size (.slice A N cp) (strs l)) => join_any A cp N l W hN h ⟨by have := hf.1; omega, fun x hx => by have := hf.2 x hx; omega⟩)
    have HWJ := Lib.hid (fun W => words_any (joinB l) W (by have := join_small HFW.out; omega))
    have HTS := Lib.hid (fun (W : World) (B B2 c c2 : Nat) (A A2 : Option Addr) (h1 : SlV W B (.slice A (wordsL (joinB l)).length c) (strs (wordsL (joinB l)))) (h2 : SlV W B2 (.slice A2 (wordsL (joinB l)).length c2) (strs (wordsL (joinB l)))) => texts_same W B B2 _ c c2 A A2 (wordsL (joinB l)) rfl h1 h2 (by have := words_few (joinB l); have := join_small HFW.out; omega))
    have HNL := Lib.hid hN
    have HTB := Lib.hid (show (txtV o a b c n).2 = 0 → (wordsL (txtV o a b c n).1).length ≤ 5 ∧ (∀ y ∈ wordsL (txtV o a b c n).1, y.size ≤ 20 ∧ Wd y.data.toList) ∧ (txtV o a b c n).1.size ≤ 1000 ∧ ∀ t, wordsL t = wordsL (txtV o a b c n).1 → parV t = (insQ o (a, b, c, n), 0) from fun h0 => by
      obtain ⟨h1, h2⟩ := line_facts H64.out h0
      exact ⟨h1, h2, line_small H64.out h0, fun t ht => parse_back H64.out h0 t ht⟩)
    clear H64
    generalize (txtV o a b c n).1 = t at HTB ⊢
    generalize (txtV o a b c n).2 = u at HTB ⊢
    by_cases hu : u = 0
    · subst hu
      have HTB2 := Lib.hid (HTB.out rfl)
      have HWO := Lib.hid (fun W => words_any t W (by have := HTB2.out.2.2.1; omega))
      clear HTB
      go_wp2_with fail
      refine (HWO.out _).mono ?_
      rintro e w3 ⟨A3, c3, rfl, hv, hb⟩
      have X3 := Lib.hid (X2.out.below hb X2.out.lt)
      have B3 := Lib.hid (B2.out.trans (hb.mono B2.out.size))
      have V3 := Lib.hid hv
      clear hb hv
      obtain ⟨ws, hws⟩ : ∃ ws, wordsL t = ws := ⟨_, rfl⟩
      have HWSE := Lib.hid hws
      rw [hws] at V3 HTB2
      rw [hws]
      clear hws
      obtain ⟨K, hK⟩ : ∃ K, ws.length = K := ⟨_, rfl⟩
      have HKK := Lib.hid hK
      have hK5 : K ≤ 5 := by rw [← hK]; exact HTB2.out.1
      rw [hK] at V3 ⊢
      clear hK
      go_wp2_with fail
      go_loopw [11, 13] (fun tv iv wr => ∃ (k : Nat) (z : ByteArray), k ≤ K ∧ iv = .int .i64 k ∧ tv = .string z ∧ z.size ≤ k * 23 ∧ Hid (Has z (ws.take k)) ∧ wr = w3) (fun _ iv _ => K - (intOf iv).toNat)
      case atStart => exact ⟨0, _, by omega, rfl, rfl, by decide, Lib.hid Has.start, rfl⟩
      case round =>
        obtain ⟨k, z, hk, rfl, rfl, hzs, HH, rfl⟩ := hrel
        by_cases hlt : k < K
        · have hkn : (k : Int) < (K : Int) := by omega
          obtain ⟨ad, y, rfl, hyg, hcy⟩ := slv_cells (j := k) HKK.out V3.out hlt
          have hy := HTB2.out.2.1 y (List.mem_of_getElem? hyg)
          have hys := hy.1
          have htk : ws.take (k + 1) = ws.take k ++ [y] := by
            obtain ⟨h1, h2⟩ := List.getElem?_eq_some_iff.1 hyg
            rw [List.take_succ_eq_append_getElem h1, h2]
          have HP1 := Lib.hid (show Has (z ++ y ++ ⟨#[32]⟩) (ws.take (k + 1)) by rw [htk]; exact HH.out.put hy.2)
          have HP2 := Lib.hid HP1.out.wide
          have hs1 : (z ++ y ++ (⟨#[32]⟩ : ByteArray)).size ≤ k * 23 + 21 := by rw [ByteArray.size_append, ByteArray.size_append]; show z.size + y.size + 1 ≤ _; omega
          have hs2 : ((⟨#[32]⟩ : ByteArray) ++ (z ++ y ++ (⟨#[32]⟩ : ByteArray)) ++ (⟨#[32]⟩ : ByteArray)).size ≤ k * 23 + 23 := by rw [ByteArray.size_append, ByteArray.size_append]; show 1 + _ + 1 ≤ _; omega
          clear hyg htk hy HH
          go_wp2_with fail
          · go_roundw
            case rel => exact ⟨k + 1, _, by omega, by go_num, rfl, by omega, HP2, trivial⟩
            case measure => simp [intOf]; omega
          · exact ⟨⟨k + 1, _, by omega, by go_num, rfl, by omega, HP1, trivial⟩, by simp [intOf]; omega⟩
        · have hkn : ¬ (k : Int) < (K : Int) := by omega
          have hwz : wordsL z = wordsL t := by rw [HH.out.words, HWSE.out, List.take_of_length_le (by rw [HKK.out]; omega)]
          have hpv := HTB2.out.2.2.2 z (by rw [hwz, HWSE.out])
          have HPA := Lib.hid (by have h := parse_any z wr (by omega) (HW.out.below B3.out).er (HW.out.below B3.out).tb (HW.out.below B3.out).bt (HW.out.below B3.out).st; unfold ParAns at h; rw [hpv] at h; exact h)
          have hins : insQ o (a, b, c, n) = #[.int .i64 o, .int .i64 a, .int .i64 b, .int .i64 c, .int .i64 n] := rfl
          simp only [hins] at HPA
          clear hwz hpv HH hins
          go_wp2_with fail
          refine HPA.out.mono ?_
          rintro e w4 ⟨rfl, hb⟩
          have X4 := Lib.hid (X3.out.below hb X3.out.lt)
          have B4 := Lib.hid (B3.out.trans (hb.mono B3.out.size))
          clear hb HPA
          have x0 : (w4.alloc (.cells #[.int .i64 o, .int .i64 a, .int .i64 b, .int .i64 c, .int .i64 n] 23)).cell? ⟨w.heap.size, 0, none⟩ = some (.int .i64 o) := by rw [(X4.out.alloc _).cell]; rfl
          have x1 : (w4.alloc (.cells #[.int .i64 o, .int .i64 a, .int .i64 b, .int .i64 c, .int .i64 n] 23)).cell? ⟨w.heap.size, 1, none⟩ = some (.int .i64 a) := by rw [(X4.out.alloc _).cell]; rfl
          have x2 : (w4.alloc (.cells #[.int .i64 o, .int .i64 a, .int .i64 b, .int .i64 c, .int .i64 n] 23)).cell? ⟨w.heap.size, 2, none⟩ = some (.int .i64 b) := by rw [(X4.out.alloc _).cell]; rfl
          have x3 : (w4.alloc (.cells #[.int .i64 o, .int .i64 a, .int .i64 b, .int .i64 c, .int .i64 n] 23)).cell? ⟨w.heap.size, 3, none⟩ = some (.int .i64 c) := by rw [(X4.out.alloc _).cell]; rfl
          have x4 : (w4.alloc (.cells #[.int .i64 o, .int .i64 a, .int .i64 b, .int .i64 c, .int .i64 n] 23)).cell? ⟨w.heap.size, 4, none⟩ = some (.int .i64 n) := by rw [(X4.out.alloc _).cell]; rfl
          have B5 := Lib.hid (B4.out.alloc B4.out.size (.cells #[.int .i64 o, .int .i64 a, .int .i64 b, .int .i64 c, .int .i64 n] 23))
          go_wp2_with fail
          refine (HDE.out _ (HW.out.below B5.out)).mono ?_
          rintro e v1 ⟨rfl, hb⟩
          have C1 := Lib.hid (B5.out.trans (hb.mono B5.out.size))
          clear hb
          go_wp2_with fail
          refine (HNU.out _ (HW.out.below C1.out)).mono ?_
          rintro e v2 ⟨rfl, hb⟩
          have C2 := Lib.hid (C1.out.trans (hb.mono C1.out.size))
          clear hb C1
          go_wp2_with fail
          have HO0 := Lib.hid (show v2.ownsRow v2.heap.size 9 1 (.slice none 0 0) ((l.take 0).flatMap wordsL).length (strs ((l.take 0).flatMap wordsL)) from ⟨rfl, .inl ⟨rfl, rfl⟩⟩)
          go_loopw [18, 19] (fun ov iv wr => ∃ (k : Nat), k ≤ N ∧ iv = .int .i64 k ∧ Hid (Below w.heap.size w wr) ∧ Hid (wr.ownsRow v2.heap.size 9 1 ov ((l.take k).flatMap wordsL).length (strs ((l.take k).flatMap wordsL))) ∧ Hid (v2.heap.size ≤ wr.heap.size)) (fun _ iv _ => N - (intOf iv).toNat)
          case atStart => exact ⟨0, by omega, rfl, C2, HO0, Lib.hid (Nat.le_refl _)⟩
          case round =>
            obtain ⟨k, hk, rfl, HB, HO, HS⟩ := hrel
            obtain ⟨wz, hwz⟩ : ∃ wz, wz = wr := ⟨_, rfl⟩
            subst hwz
            by_cases hlt : k < N
            · have hkn : (k : Int) < (N : Int) := by omega
              obtain ⟨ad, y, rfl, hyg, hcy⟩ := slv_cells (j := k) HNL.out HL.out hlt
              have hcy2 : wz.cell? (ad.add k) = some (.string y) := (HB.out.cell (World.block_lt_of_cell? w _ hcy)).trans hcy
              have HYS := Lib.hid (HFW.out.2 y (List.mem_of_getElem? hyg))
              have HFL := Lib.hid (flat_take hyg)
              have HFC := Lib.hid (flat_few HFW.out k)
              have HWF := Lib.hid (words_few y)
              have hk40 : k < 40 := by have := HFW.out.1; have := HNL.out; omega
              clear hcy hyg
              go_wp2_with fail
              refine (HRW.out y wz HYS.out).mono ?_
              rintro e w6 hh
              obtain ⟨A6, c6, rfl, hv6, hb6⟩ := TAns.list hh
              have hs6 := HS.out
              have HB6 := Lib.hid (HB.out.trans (hb6.mono HB.out.size))
              have HO6 := Lib.hid (own_keep (w' := w6) HO.out fun g _ hg => hb6.block g hg)
              have HV6 := Lib.hid hv6
              have HS6 := Lib.hid (Nat.le_trans hs6 hb6.size)
              have D1 := Lib.hid (show (strs ((l.take k).flatMap wordsL)).length + (strs (wordsL y)).length ≤ maxLen by have := HFC.out; have := HWF.out; have := HYS.out; simp only [strs_length]; unfold maxLen; omega)
              have D2 := Lib.hid (show ((strs ((l.take k).flatMap wordsL)).length + (strs (wordsL y)).length) * 16 ≤ 140737488355328 by have := HFC.out; have := HWF.out; have := HYS.out; simp only [strs_length]; omega)
              have HO7 := Lib.hid (show w6.ownsRow v2.heap.size 9 1 u18 (strs ((l.take k).flatMap wordsL)).length (strs ((l.take k).flatMap wordsL)) from by rw [strs_length]; exact HO6.out)
              clear hh hv6 hs6
              go_wp2_with (at_builtin; refine wpList_append_slv _ rfl (.tmp 76) (.tmp 81) _ rfl v2.heap.size 9 i0 (.string ByteArray.empty) 16 Tryd.underlying24 hi0 hz0 hz1 hz2 rfl _ _ rfl HO7.out _ (.slice A6 (wordsL y).length c6) (strs (wordsL y)) rfl HV6.out (fun z hz => by obtain ⟨q, _, rfl⟩ := List.mem_map.1 hz; rfl) D1.out D2.out HS6.out ?_; intro v3 w7 hown1 hg1)
              have HB7 := Lib.hid (HB6.out.grown hg1 (by have := HB6.out.size; omega) (fun r e => by have := (HO7.out.lt r e).1; have := C2.out.size; omega))
              have HO8 := Lib.hid (show w7.ownsRow v2.heap.size 9 1 v3 ((l.take (k + 1)).flatMap wordsL).length (strs ((l.take (k + 1)).flatMap wordsL)) from by rw [HFL.out]; simpa [strs] using hown1)
              have HS8 := Lib.hid (Nat.le_trans HS6.out hg1.size)
              clear hown1 hg1 hb6
              go_wp2_with fail
              go_roundw
              case rel => exact ⟨k + 1, by omega, by go_num, HB7, HO8, HS8⟩
              case measure => simp [intOf]; omega
            · have hkn : ¬ (k : Int) < (N : Int) := by omega
              have HFA := Lib.hid (show (l.take k).flatMap wordsL = wordsL (joinB l) by rw [List.take_of_length_le (by have := HNL.out; omega), words_join])
              have HOF := Lib.hid (show wz.ownsRow v2.heap.size 9 1 u18 (wordsL (joinB l)).length (strs (wordsL (joinB l))) from by rw [← HFA.out]; exact HO.out)
              have hsv := SlV.of_own HOF.out
              obtain ⟨A9, c9, hform⟩ := hsv.form
              rw [strs_length] at hform
              rw [hform] at hsv
              have HSV := Lib.hid hsv
              have HFO := Lib.hid hform
              have HJ2 := Lib.hid (HJ.out wz HFW.out ((HL.out.below HB.out).more HB.out.size))
              clear hsv hform
              go_wp2_with fail
              refine HJ2.out.mono ?_
              rintro e w6 ⟨rfl, hb6⟩
              have HB6 := Lib.hid (HB.out.trans (hb6.mono HB.out.size))
              have HSV6 := Lib.hid (HSV.out.below hb6)
              have HSZ6 := Lib.hid hb6.size
              clear hb6
              go_wp2_with fail
              refine (HWJ.out w6).mono ?_
              rintro e w7 ⟨A7, c7, rfl, hv7, hb7⟩
              have HB7 := Lib.hid (HB6.out.trans (hb7.mono HB6.out.size))
              have HTS2 := Lib.hid (HTS.out w7 _ _ c7 c9 A7 A9 hv7 (HSV6.out.below (hb7.mono HSZ6.out)))
              clear hv7 hb7
              rw [HFO.out]
              go_wp2_with fail
              refine HTS2.out.mono ?_
              rintro e w8 ⟨rfl, hb8⟩
              have HB8 := Lib.hid (HB7.out.trans (hb8.mono HB7.out.size))
              clear hb8
              go_wp2_with fail
              refine (HK.out _ (HW.out.below HB8.out)).mono ?_
              rintro e w9 ⟨rfl, hb9⟩
              have HB9 := Lib.hid (HB8.out.trans (hb9.mono HB8.out.size))
              clear hb9
              go_wp2_with fail
              go_ret
              exact ⟨rfl, HB9.out⟩
    · have huq : (u == 0) = false := by simpa using hu
      clear hu HTB
      go_wp2_with fail
      refine (HDE.out _ (HW.out.below B2.out)).mono ?_
      rintro e v1 ⟨rfl, hb⟩
      have C1 := Lib.hid (B2.out.trans (hb.mono B2.out.size))
      clear hb
      go_wp2_with fail
      refine (HNU.out _ (HW.out.below C1.out)).mono ?_
      rintro e v2 ⟨rfl, hb⟩
      have C2 := Lib.hid (C1.out.trans (hb.mono C1.out.size))
      clear hb C1
      go_wp2_with fail
      have HO0 := Lib.hid (show v2.ownsRow v2.heap.size 9 1 (.slice none 0 0) ((l.take 0).flatMap wordsL).length (strs ((l.take 0).flatMap wordsL)) from ⟨rfl, .inl ⟨rfl, rfl⟩⟩)
      go_loopw [18, 19] (fun ov iv wr => ∃ (k : Nat), k ≤ N ∧ iv = .int .i64 k ∧ Hid (Below w.heap.size w wr) ∧ Hid (wr.ownsRow v2.heap.size 9 1 ov ((l.take k).flatMap wordsL).length (strs ((l.take k).flatMap wordsL))) ∧ Hid (v2.heap.size ≤ wr.heap.size)) (fun _ iv _ => N - (intOf iv).toNat)
      case atStart => exact ⟨0, by omega, rfl, C2, HO0, Lib.hid (Nat.le_refl _)⟩
      case round =>
        obtain ⟨k, hk, rfl, HB, HO, HS⟩ := hrel
        obtain ⟨wz, hwz⟩ : ∃ wz, wz = wr := ⟨_, rfl⟩
        subst hwz
        by_cases hlt : k < N
        · have hkn : (k : Int) < (N : Int) := by omega
          obtain ⟨ad, y, rfl, hyg, hcy⟩ := slv_cells (j := k) HNL.out HL.out hlt
          have hcy2 : wz.cell? (ad.add k) = some (.string y) := (HB.out.cell (World.block_lt_of_cell? w _ hcy)).trans hcy
          have HYS := Lib.hid (HFW.out.2 y (List.mem_of_getElem? hyg))
          have HFL := Lib.hid (flat_take hyg)
          have HFC := Lib.hid (flat_few HFW.out k)
          have HWF := Lib.hid (words_few y)
          have hk40 : k < 40 := by have := HFW.out.1; have := HNL.out; omega
          clear hcy hyg
          go_wp2_with fail
          refine (HRW.out y wz HYS.out).mono ?_
          rintro e w6 hh
          obtain ⟨A6, c6, rfl, hv6, hb6⟩ := TAns.list hh
          have hs6 := HS.out
          have HB6 := Lib.hid (HB.out.trans (hb6.mono HB.out.size))
          have HO6 := Lib.hid (own_keep (w' := w6) HO.out fun g _ hg => hb6.block g hg)
          have HV6 := Lib.hid hv6
          have HS6 := Lib.hid (Nat.le_trans hs6 hb6.size)
          have D1 := Lib.hid (show (strs ((l.take k).flatMap wordsL)).length + (strs (wordsL y)).length ≤ maxLen by have := HFC.out; have := HWF.out; have := HYS.out; simp only [strs_length]; unfold maxLen; omega)
          have D2 := Lib.hid (show ((strs ((l.take k).flatMap wordsL)).length + (strs (wordsL y)).length) * 16 ≤ 140737488355328 by have := HFC.out; have := HWF.out; have := HYS.out; simp only [strs_length]; omega)
          have HO7 := Lib.hid (show w6.ownsRow v2.heap.size 9 1 u18 (strs ((l.take k).flatMap wordsL)).length (strs ((l.take k).flatMap wordsL)) from by rw [strs_length]; exact HO6.out)
          clear hh hv6 hs6
          go_wp2_with (at_builtin; refine wpList_append_slv _ rfl (.tmp 76) (.tmp 81) _ rfl v2.heap.size 9 i0 (.string ByteArray.empty) 16 Tryd.underlying24 hi0 hz0 hz1 hz2 rfl _ _ rfl HO7.out _ (.slice A6 (wordsL y).length c6) (strs (wordsL y)) rfl HV6.out (fun z hz => by obtain ⟨q, _, rfl⟩ := List.mem_map.1 hz; rfl) D1.out D2.out HS6.out ?_; intro v3 w7 hown1 hg1)
          have HB7 := Lib.hid (HB6.out.grown hg1 (by have := HB6.out.size; omega) (fun r e => by have := (HO7.out.lt r e).1; have := C2.out.size; omega))
          have HO8 := Lib.hid (show w7.ownsRow v2.heap.size 9 1 v3 ((l.take (k + 1)).flatMap wordsL).length (strs ((l.take (k + 1)).flatMap wordsL)) from by rw [HFL.out]; simpa [strs] using hown1)
          have HS8 := Lib.hid (Nat.le_trans HS6.out hg1.size)
          clear hown1 hg1 hb6
          go_wp2_with fail
          go_roundw
          case rel => exact ⟨k + 1, by omega, by go_num, HB7, HO8, HS8⟩
          case measure => simp [intOf]; omega
        · have hkn : ¬ (k : Int) < (N : Int) := by omega
          have HFA := Lib.hid (show (l.take k).flatMap wordsL = wordsL (joinB l) by rw [List.take_of_length_le (by have := HNL.out; omega), words_join])
          have HOF := Lib.hid (show wz.ownsRow v2.heap.size 9 1 u18 (wordsL (joinB l)).length (strs (wordsL (joinB l))) from by rw [← HFA.out]; exact HO.out)
          have hsv := SlV.of_own HOF.out
          obtain ⟨A9, c9, hform⟩ := hsv.form
          rw [strs_length] at hform
          rw [hform] at hsv
          have HSV := Lib.hid hsv
          have HFO := Lib.hid hform
          have HJ2 := Lib.hid (HJ.out wz HFW.out ((HL.out.below HB.out).more HB.out.size))
          clear hsv hform
          go_wp2_with fail
          refine HJ2.out.mono ?_
          rintro e w6 ⟨rfl, hb6⟩
          have HB6 := Lib.hid (HB.out.trans (hb6.mono HB.out.size))
          have HSV6 := Lib.hid (HSV.out.below hb6)
          have HSZ6 := Lib.hid hb6.size
          clear hb6
          go_wp2_with fail
          refine (HWJ.out w6).mono ?_
          rintro e w7 ⟨A7, c7, rfl, hv7, hb7⟩
          have HB7 := Lib.hid (HB6.out.trans (hb7.mono HB6.out.size))
          have HTS2 := Lib.hid (HTS.out w7 _ _ c7 c9 A7 A9 hv7 (HSV6.out.below (hb7.mono HSZ6.out)))
          clear hv7 hb7
          rw [HFO.out]
          go_wp2_with fail
          refine HTS2.out.mono ?_
          rintro e w8 ⟨rfl, hb8⟩
          have HB8 := Lib.hid (HB7.out.trans (hb8.mono HB7.out.size))
          clear hb8
          go_wp2_with fail
          refine (HK.out _ (HW.out.below HB8.out)).mono ?_
          rintro e w9 ⟨rfl, hb9⟩
          have HB9 := Lib.hid (HB8.out.trans (hb9.mono HB8.out.size))
          clear hb9
          go_wp2_with fail
          go_ret
          exact ⟨rfl, HB9.out⟩
end Go.Proofs.YtnplhpbbdgnmiaaDoor.Ln
