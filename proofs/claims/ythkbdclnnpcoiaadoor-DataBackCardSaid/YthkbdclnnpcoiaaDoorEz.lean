/-
  DATABACK: data that may be are got as they were put, and so far.
-/
import Derived.Test.YthkbdclnnpcoiaaDoorEy
namespace Go.Proofs.YthkbdclnnpcoiaaDoor.By
open Go.RowKit
open Mem Gm Rf
set_option linter.unusedSimpArgs false
set_option linter.unusedVariables false

theorem fir_zero {f : Nat → Int} : ∀ (m k : Nat), firF f k m = 0 → ∀ j, k ≤ j → j < k + m → f j = 0
  | 0, k, _, j, h1, h2 => by omega
  | m + 1, k, h, j, h1, h2 => by
    unfold firF at h
    split at h
    · rename_i hne; exact absurd h hne
    · rename_i hz
      by_cases e : j = k
      · subst e; simpa using hz
      · exact fir_zero m (k + 1) h j (by omega) (by omega)
theorem chk_ok {kd : Int} {ws : List Int} {nS : Nat} {rs : List Rl} {ss : List Sy} (h : chkD kd ws nS rs ss = 0) (hS : nS ≤ 60) : (0 ≤ kd ∧ kd ≤ 255) ∧ ws.length ≤ 32 ∧ ∀ x ∈ rs, (0 ≤ x.1 ∧ x.1 ≤ 255) ∧ 0 ≤ x.2.1 ∧ x.2.1 ≤ 255 := by
  unfold chkD at h
  split at h
  · exact absurd h (by decide)
  · rename_i hk
    have hk' : 0 ≤ kd ∧ kd ≤ 8 := by
      have : Si.kindB kd = true := by simpa using hk
      exact of_decide_eq_true this
    split at h
    · exact absurd h (by decide)
    · rename_i hw
      split at h
      · exact absurd h (by decide)
      · refine ⟨by omega, by omega, fun x hx => ?_⟩
        obtain ⟨i, hi⟩ := List.mem_iff_getElem?.1 hx
        have hil : i < rs.length := (List.getElem?_eq_some_iff.1 hi).1
        have hf := fir_zero _ _ h i (by omega) (by omega)
        have he : rlAt rs i = x := by rw [rlAt_some hil] at hi; injection hi
        unfold fE at hf
        split at hf
        · exact absurd hf (by decide)
        · rename_i hc
          simp only [Bool.or_eq_true, not_or] at hc
          obtain ⟨⟨⟨_, c2⟩, _⟩, c4⟩ := hc
          unfold c2V at c2
          unfold c4V at c4
          rw [he] at c2 c4
          simp only [Bool.not_eq_true', Bool.not_eq_false, Bool.and_eq_true, decide_eq_true_eq] at c2 c4
          omega

set_option maxRecDepth 100000 in
set_option maxHeartbeats 8000000 in
theorem dataBack_any (w : World) (kd : Int) (AW AR AS A2 : Option Addr) (nW cW nR cR nS cS n2 c2 : Nat) (ws : List Int) (rs : List Rl) (ss : List Sy) (bs : List UInt8) (hT : Si.Txs w) (hlo : -9223372036854775808 ≤ kd ∧ kd ≤ 9223372036854775807) (hwb : ∀ n ∈ ws, -9223372036854775808 ≤ n ∧ n ≤ 9223372036854775807) (h1 : IW w (.slice AW nW cW) ws) (hL : ws.length = nW) (h2 : RlL w AR nR cR rs) (h3 : SyL w AS nS cS ss) (hm : bs.length = n2) (hb : SlV w w.heap.size (.slice A2 n2 c2) (u8s bs)) :
    Calls Tryd.prog 5 #[.agg #[.int .i64 kd, .slice AW nW cW, .slice AR nR cR], .slice AS nS cS, .slice A2 n2 c2] w (TAns w) := by
  obtain ⟨i0, hi, hz0, hz1, hz2⟩ := info_parts info5
  obtain ⟨W1, hW1⟩ : ∃ W1, w.alloc (.cells #[.int .i64 kd, .slice AW nW cW, .slice AR nR cR] 25) = W1 := ⟨_, rfl⟩
  have hb0 : Below w.heap.size w W1 := by rw [← hW1]; exact alloc_ _ _
  have HB0 := Lib.hid hb0
  have RK := Lib.hid (show BK W1 w.heap.size (.int .i64 kd) (.slice AW nW cW) (.slice AR nR cR) from by rw [← hW1]; exact Blk.new w _ _)
  have RX := Lib.hid (TX.on hT hb0)
  have RI := Lib.hid (IW.on h1 hb0)
  have RR := Lib.hid (RlL.on h2 hb0)
  have RS := Lib.hid (SyL.on h3 hb0)
  have RY := Lib.hid (YW.on hb hb0)
  have HF := Lib.hid (fewD_any W1 kd AW AR nW cW nR cR)
  obtain ⟨bf, hbf⟩ : ∃ b, fewD nW nR = b := ⟨_, rfl⟩
  rw [hbf] at HF
  obtain ⟨c0, c1, c2'⟩ := BK.cells RK.out
  cases bf with
  | false =>
    clear hbf hT h1 hL h2 h3 hb0 hlo hwb hm hb
    go_enter Tryd.func5, Tryd.ntmps5
    go_wp2_with fail
    refine HF.out.mono ?_
    rintro e w1 ⟨rfl, b1⟩
    have HB1 := Lib.hid (to_ HB0.out b1)
    have RX1 := Lib.hid (RX.out.on b1)
    clear b1
    go_wp2_with fail
    refine (known15_any _ RX1.out).mono ?_
    rintro e w9 ⟨rfl, b9⟩
    have HB9 := Lib.hid (to_ HB1.out b9)
    clear b9
    go_wp2_with fail
    go_ret
    exact ⟨rfl, HB9.out⟩
  | true =>
    have hfw : nW ≤ 100 ∧ nR ≤ 100 := of_decide_eq_true hbf
    by_cases h9 : 60 < nS
    · have e2 : (60 : Int) < (nS : Int) := by omega
      clear hbf hT h1 hL h2 h3 hb0 hfw h9 hlo hwb hm hb
      go_enter Tryd.func5, Tryd.ntmps5
      go_wp2_with fail
      refine HF.out.mono ?_
      rintro e w1 ⟨rfl, b1⟩
      have HB1 := Lib.hid (to_ HB0.out b1)
      have RX1 := Lib.hid (RX.out.on b1)
      clear b1
      go_wp2_with fail
      refine (known15_any _ RX1.out).mono ?_
      rintro e w9 ⟨rfl, b9⟩
      have HB9 := Lib.hid (to_ HB1.out b9)
      clear b9
      go_wp2_with fail
      go_ret
      exact ⟨rfl, HB9.out⟩
    · have e2 : ¬ (60 : Int) < (nS : Int) := by omega
      by_cases h8 : 100 < n2
      · have e3 : (100 : Int) < (n2 : Int) := by omega
        clear hbf hT h1 hL h2 h3 hb0 hfw h9 h8 hlo hwb hm hb
        go_enter Tryd.func5, Tryd.ntmps5
        go_wp2_with fail
        refine HF.out.mono ?_
        rintro e w1 ⟨rfl, b1⟩
        have HB1 := Lib.hid (to_ HB0.out b1)
        have RX1 := Lib.hid (RX.out.on b1)
        clear b1
        go_wp2_with fail
        refine (known15_any _ RX1.out).mono ?_
        rintro e w9 ⟨rfl, b9⟩
        have HB9 := Lib.hid (to_ HB1.out b9)
        clear b9
        go_wp2_with fail
        go_ret
        exact ⟨rfl, HB9.out⟩
      · have e3 : ¬ (100 : Int) < (n2 : Int) := by omega
        have hRL : rs.length = nR := h2.1
        obtain ⟨D, hD⟩ : ∃ D, (dtB kd ws rs).length = D := ⟨_, rfl⟩
        have hDB : D ≤ 100000 := by
          rw [← hD]; unfold dtB
          rw [List.length_append, List.length_append, List.length_append, List.length_append, putB1, putB1, putB1, wsB_len, rlsB_len]; omega
        have HCK := Lib.hid (show ∀ W, TX W → IW W (.slice AW nW cW) ws → RlL W AR nR cR rs → SyL W AS nS cS ss → Calls Tryd.prog 8 #[.agg #[.int .i64 kd, .slice AW nW cW, .slice AR nR cR], .slice AS nS cS] W (CkD (chkD kd ws nS rs ss) W) from fun W ht hi hr hs => checkD_any W kd AW AR AS nW cW nR cR nS cS ws rs ss hlo.1 hlo.2 ht hi hL (by omega) hr (by omega) hs)
        have HPT := Lib.hid (show ∀ W, IW W (.slice AW nW cW) ws → RlL W AR nR cR rs → Calls Tryd.prog 15 #[.slice none 0 0, .agg #[.int .i64 kd, .slice AW nW cW, .slice AR nR cR]] W (ONn D (dtB kd ws rs) W) from fun W hi hr => by
          rw [← hD]; exact putD_own W none 0 0 [] kd AW AR nW cW nR cR ws rs rfl .nil (by omega) hi hL (by omega) hr (by omega))
        have HDL := Lib.hid hD
        have HDB := Lib.hid (show D ≤ 100000 ∧ n2 ≤ 100 from ⟨hDB, by omega⟩)
        have HM := Lib.hid hm
        obtain ⟨L, hLL⟩ : ∃ L, dtB kd ws rs ++ bs = L := ⟨_, rfl⟩
        have HUA := Lib.hid (show u8s (dtB kd ws rs) ++ u8s bs = u8s L from by rw [← hLL, u8s_append])
        have HLB := Lib.hid (show L.length ≤ 1099511627776 from by rw [← hLL, List.length_append]; omega)
        have HNL := Lib.hid (show nW ≤ 10000 ∧ nR ≤ 10000 from by omega)
        have HWL := Lib.hid hL
        by_cases hx0 : chkD kd ws nS rs ss = 0
        · rw [hx0] at HCK
          obtain ⟨k1, k2, k3⟩ := chk_ok hx0 (by omega)
          have hdb := data_back kd ws rs bs k1 (by omega) (by omega) hwb k3
          rw [hLL, hD] at hdb
          have HGT := Lib.hid (show ∀ W g A c, RdS W g A c L (0, true) → Calls Tryd.prog 18 #[.pointer (some ⟨g, 0, none⟩)] W (GtAns ⟨kd, ws, rs, 0⟩ (D, true) W g A c L) from fun W g A c hr => by rw [← hdb.1, ← hdb.2]; exact getD_any W g A c L (0, true) hr)
          unfold GtAns at HGT
          dsimp only at HGT
          rw [hL, hRL] at HGT
          clear k1 k2 k3 hdb hx0 hLL hbf hT h1 hL h2 h3 hb0 hfw h9 h8 hlo hwb hm hb hRL hD hDB
          generalize dtB kd ws rs = DB at HPT HUA HDL
          go_enter Tryd.func5, Tryd.ntmps5
          go_wp2_with fail
          refine (HF.out).mono ?_
          rintro e w1 ⟨rfl, b1⟩
          have Ri1 := Lib.hid (RI.out.on b1)
          have Rr1 := Lib.hid (RR.out.on b1)
          have Rx1 := Lib.hid (RX.out.on b1)
          have Rk1 := Lib.hid (RK.out.on b1)
          have Rs1 := Lib.hid (RS.out.on b1)
          have Ry1 := Lib.hid (RY.out.on b1)
          have HB1 := Lib.hid (to_ HB0.out b1)
          clear b1 RI RR RX RK RS RY HB0
          clear hW1 c0 c1 c2'
          obtain ⟨c0, c1, c2'⟩ := BK.cells Rk1.out
          go_wp2_with fail
          refine (HPT.out _ Ri1.out Rr1.out).mono ?_
          rintro e w5 ⟨A5, c5, rfl, own5, b5⟩
          have OW5 := Lib.hid own5
          have Ry5 := Lib.hid (Ry1.out.on b5)
          have HB5 := Lib.hid b5
          have HS5 := Lib.hid b5.size
          clear own5 b5 c0 c1 c2'
          go_wp2_with (at_builtin; go_must (refine wpList_append_slv _ rfl _ _ 36 rfl w1.heap.size 5 i0 (.int .u8 0) 1 Tryd.underlying36 hi hz0 hz1 hz2 rfl _ (u8s DB) rfl (by rw [u8s_length, HDL.out]; exact OW5.out) _ (.slice A2 n2 c2) (u8s bs) rfl Ry5.out (u8s_one _) (by rw [u8s_length, u8s_length, HDL.out, HM.out]; have := HDB.out; unfold maxLen; omega) (by rw [u8s_length, u8s_length, HDL.out, HM.out]; have := HDB.out; omega) HS5.out ?_); intro v6 w6 hown6 hg6)
          have b6 : Below w1.heap.size w1 w6 := HB5.out.grown hg6 HB5.out.size (fun r e => (OW5.out.lt r e).1)
          rw [HUA.out] at hown6
          have HY6 := Lib.hid (show YW w6 v6 L from SlV.of_own hown6)
          have HB6 := Lib.hid b6
          clear hown6 hg6 b6 HB5 HS5 Ry5 OW5
          go_wp2_with fail
          refine (new_any _ L w6 _ HY6.out HLB.out).mono ?_
          rintro e w7 ⟨g, A, c, rfl, hg, hr, b7⟩
          have HG7 := Lib.hid hg
          have HR7 := Lib.hid hr
          have HB7 := Lib.hid b7
          clear hr b7 hg
          go_wp2_with fail
          refine (HGT.out _ _ _ _ HR7.out).mono ?_
          rintro e w8 ⟨BW, dW, BR, dR, rfl, hx, hx2, hrd, hgr⟩
          have b8 : Below w6.heap.size w6 w8 := HB7.out.grown hgr HB7.out.size (fun r e => by injection e with e; have := HG7.out; omega)
          obtain ⟨w9, hw9⟩ : ∃ w9, w8.alloc (.cells #[.int .i64 kd, .slice BW nW dW, .slice BR nR dR] 25) = w9 := ⟨_, rfl⟩
          have b9 : Below w8.heap.size w8 w9 := by rw [← hw9]; exact alloc_ _ _
          have b19 := to_ HB6.out (to_ b8 b9)
          have Ri9 := Lib.hid (Ri1.out.on b19)
          have Rr9 := Lib.hid (Rr1.out.on b19)
          have Rx9 := Lib.hid (Rx1.out.on b19)
          have Rk9 := Lib.hid (Rk1.out.on b19)
          have Rs9 := Lib.hid (Rs1.out.on b19)
          have HB9 := Lib.hid (to_ HB1.out b19)
          have Rm9 := Lib.hid (show BK w9 w8.heap.size (.int .i64 kd) (.slice BW nW dW) (.slice BR nR dR) from by rw [← hw9]; exact Blk.new w8 _ _)
          have Rj9 := Lib.hid (hx.on b9)
          have Rq9 := Lib.hid (hx2.on b9)
          have Rd9 := Lib.hid (show Rdr w9 g A c L D true from Rdr.below (show Rdr w8 g A c L D true from hrd) b9 (Rdr.blk (show Rdr w8 g A c L D true from hrd)).lt)
          clear hx hx2 hrd hgr b8 b9 b19 HG7 HR7 HB7 HB6 HY6 HB1 Ri1 Rr1 Rx1 Rk1 Rs1 Ry1
          obtain ⟨c0, c1, c2'⟩ := BK.cells Rk9.out
          obtain ⟨m0, m1, m2⟩ := BK.cells Rm9.out
          go_wp2_with fail
          clear hw9
          refine (HCK.out _ Rx9.out Ri9.out Rr9.out Rs9.out).mono ?_
          rintro e w10 ⟨rfl, b10⟩
          clear c0 c1 c2' m0 m1 m2
          have Rx10 := Lib.hid (Rx9.out.on b10)
          have HB10 := Lib.hid (to_ HB9.out b10)
          obtain ⟨c0, c1, c2'⟩ := BK.cells (Rk9.out.on b10)
          obtain ⟨m0, m1, m2⟩ := BK.cells (Rm9.out.on b10)
          have Ri10 := Lib.hid (Ri9.out.on b10)
          have Rr10 := Lib.hid (Rr9.out.on b10)
          have Rj10 := Lib.hid (Rj9.out.on b10)
          have Rq10 := Lib.hid (Rq9.out.on b10)
          have Rd10 := Lib.hid (Rdr.below Rd9.out b10 Rd9.out.blk.lt)
          clear b10
          go_wp2_with fail
          refine (same_same _ kd BW AW BR AR nW dW cW nR dR cR ws rs Rj10.out Ri10.out HWL.out HNL.out.1 Rq10.out Rr10.out HNL.out.2).mono ?_
          rintro e w11 ⟨rfl, b11⟩
          clear c0 c1 c2' m0 m1 m2
          have Rx11 := Lib.hid (Rx10.out.on b11)
          have HB11 := Lib.hid (to_ HB10.out b11)
          have Rd11 := Lib.hid (Rdr.below Rd10.out b11 Rd10.out.blk.lt)
          clear b11
          go_wp2_with fail
          refine (at_any _ g A c L D true Rd11.out).mono ?_
          rintro e w12 ⟨rfl, rfl⟩
          go_wp2_with fail
          refine (known15_any _ Rx11.out).mono ?_
          rintro e w20 ⟨rfl, b20⟩
          have HB20 := Lib.hid (to_ HB11.out b20)
          clear b20
          go_wp2_with fail
          go_ret
          exact ⟨rfl, HB20.out⟩
        · obtain ⟨x, hx⟩ : ∃ x, chkD kd ws nS rs ss = x := ⟨_, rfl⟩
          rw [hx] at HCK hx0
          have hxb : (x != 0) = true := by simpa using hx0
          obtain ⟨G, hG⟩ : ∃ G, gdV L (0, true) = G := ⟨_, rfl⟩
          obtain ⟨S, hS⟩ : ∃ S, (gR L (0, true)).2 = S := ⟨_, rfl⟩
          have HGT := Lib.hid (show ∀ W g A c, RdS W g A c L (0, true) → Calls Tryd.prog 18 #[.pointer (some ⟨g, 0, none⟩)] W (GtAns G S W g A c L) from fun W g A c hr => by rw [← hG, ← hS]; exact getD_any W g A c L (0, true) hr)
          obtain ⟨gk, gw, gr, ge⟩ := G
          obtain ⟨N1, hN1⟩ : ∃ N, gw.length = N := ⟨_, rfl⟩
          obtain ⟨N2, hN2⟩ : ∃ N, gr.length = N := ⟨_, rfl⟩
          unfold GtAns at HGT
          dsimp only at HGT
          rw [hN1, hN2] at HGT
          clear hG hS hN1 hN2 hx hx0 hLL hbf hT h1 hL h2 h3 hb0 hfw h9 h8 hlo hwb hm hb hRL hD hDB
          generalize dtB kd ws rs = DB at HPT HUA HDL
          go_enter Tryd.func5, Tryd.ntmps5
          go_wp2_with fail
          refine (HF.out).mono ?_
          rintro e w1 ⟨rfl, b1⟩
          have Ri1 := Lib.hid (RI.out.on b1)
          have Rr1 := Lib.hid (RR.out.on b1)
          have Rx1 := Lib.hid (RX.out.on b1)
          have Rk1 := Lib.hid (RK.out.on b1)
          have Rs1 := Lib.hid (RS.out.on b1)
          have Ry1 := Lib.hid (RY.out.on b1)
          have HB1 := Lib.hid (to_ HB0.out b1)
          clear b1 RI RR RX RK RS RY HB0
          clear hW1 c0 c1 c2'
          obtain ⟨c0, c1, c2'⟩ := BK.cells Rk1.out
          go_wp2_with fail
          refine (HPT.out _ Ri1.out Rr1.out).mono ?_
          rintro e w5 ⟨A5, c5, rfl, own5, b5⟩
          have OW5 := Lib.hid own5
          have Ry5 := Lib.hid (Ry1.out.on b5)
          have HB5 := Lib.hid b5
          have HS5 := Lib.hid b5.size
          clear own5 b5 c0 c1 c2'
          go_wp2_with (at_builtin; go_must (refine wpList_append_slv _ rfl _ _ 36 rfl w1.heap.size 5 i0 (.int .u8 0) 1 Tryd.underlying36 hi hz0 hz1 hz2 rfl _ (u8s DB) rfl (by rw [u8s_length, HDL.out]; exact OW5.out) _ (.slice A2 n2 c2) (u8s bs) rfl Ry5.out (u8s_one _) (by rw [u8s_length, u8s_length, HDL.out, HM.out]; have := HDB.out; unfold maxLen; omega) (by rw [u8s_length, u8s_length, HDL.out, HM.out]; have := HDB.out; omega) HS5.out ?_); intro v6 w6 hown6 hg6)
          have b6 : Below w1.heap.size w1 w6 := HB5.out.grown hg6 HB5.out.size (fun r e => (OW5.out.lt r e).1)
          rw [HUA.out] at hown6
          have HY6 := Lib.hid (show YW w6 v6 L from SlV.of_own hown6)
          have HB6 := Lib.hid b6
          clear hown6 hg6 b6 HB5 HS5 Ry5 OW5
          go_wp2_with fail
          refine (new_any _ L w6 _ HY6.out HLB.out).mono ?_
          rintro e w7 ⟨g, A, c, rfl, hg, hr, b7⟩
          have HG7 := Lib.hid hg
          have HR7 := Lib.hid hr
          have HB7 := Lib.hid b7
          clear hr b7 hg
          go_wp2_with fail
          refine (HGT.out _ _ _ _ HR7.out).mono ?_
          rintro e w8 ⟨BW, dW, BR, dR, rfl, hx, hx2, hrd, hgr⟩
          have b8 : Below w6.heap.size w6 w8 := HB7.out.grown hgr HB7.out.size (fun r e => by injection e with e; have := HG7.out; omega)
          obtain ⟨w9, hw9⟩ : ∃ w9, w8.alloc (.cells #[.int .i64 gk, .slice BW N1 dW, .slice BR N2 dR] 25) = w9 := ⟨_, rfl⟩
          have b9 : Below w8.heap.size w8 w9 := by rw [← hw9]; exact alloc_ _ _
          have b19 := to_ HB6.out (to_ b8 b9)
          have Ri9 := Lib.hid (Ri1.out.on b19)
          have Rr9 := Lib.hid (Rr1.out.on b19)
          have Rx9 := Lib.hid (Rx1.out.on b19)
          have Rk9 := Lib.hid (Rk1.out.on b19)
          have Rs9 := Lib.hid (Rs1.out.on b19)
          have HB9 := Lib.hid (to_ HB1.out b19)
          have Rm9 := Lib.hid (show BK w9 w8.heap.size (.int .i64 gk) (.slice BW N1 dW) (.slice BR N2 dR) from by rw [← hw9]; exact Blk.new w8 _ _)
          clear hx hx2 hrd hgr b8 b9 b19 HG7 HR7 HB7 HB6 HY6 HB1 Ri1 Rr1 Rx1 Rk1 Rs1 Ry1
          obtain ⟨c0, c1, c2'⟩ := BK.cells Rk9.out
          obtain ⟨m0, m1, m2⟩ := BK.cells Rm9.out
          go_wp2_with fail
          clear hw9
          refine (HCK.out _ Rx9.out Ri9.out Rr9.out Rs9.out).mono ?_
          rintro e w10 ⟨rfl, b10⟩
          clear c0 c1 c2' m0 m1 m2
          have Rx10 := Lib.hid (Rx9.out.on b10)
          have HB10 := Lib.hid (to_ HB9.out b10)
          obtain ⟨c0, c1, c2'⟩ := BK.cells (Rk9.out.on b10)
          obtain ⟨m0, m1, m2⟩ := BK.cells (Rm9.out.on b10)
          clear b10
          go_wp2_with fail
          refine (known15_any _ Rx10.out).mono ?_
          rintro e w20 ⟨rfl, b20⟩
          have HB20 := Lib.hid (to_ HB10.out b20)
          clear b20
          go_wp2_with fail
          go_ret
          exact ⟨rfl, HB20.out⟩
end Go.Proofs.YthkbdclnnpcoiaaDoor.By
