/-
  DATAOCTETS: the bytes of data, and the next data of any bytes, are what the document says.
-/
import Derived.Test.YthkbdclnnpcoiaaDoorEs
import Derived.Test.YthkbdclnnpcoiaaDoorEb
import Derived.Test.YthkbdclnnpcoiaaDoorEh
import Derived.Test.YthkbdclnnpcoiaaDoorTx
import Derived.Test.YthkbdclnnpcoiaaDoorHm
import Derived.Lib.SlBytesConst
namespace Go.Proofs.YthkbdclnnpcoiaaDoor.By
open Go.RowKit
open Mem Gm Rf
set_option linter.unusedSimpArgs false
set_option linter.unusedVariables false

theorem text_of {w : World} {B : Nat} {v : Value} {l : List UInt8} (h : SlV w B v (u8s l)) : (convert 36 9 v).run Tryd.prog w = .ok (.string ⟨l.toArray⟩) w := by
  generalize hu : u8s l = us at h
  cases h with
  | nil =>
    obtain rfl : l = [] := by simpa [u8s] using hu
    exact run_convert_bytes_nil w 36 5 Tryd.underlying36 Tryd.underlying5 0 0 9 Tryd.underlying9
  | at_ ad cap _ hc hm h =>
    subst hu
    rw [u8s_length]
    exact run_convert_bytes_back w 36 9 5 ad cap l Tryd.underlying36 Tryd.underlying5 Tryd.underlying9 fun j hj => (h j _ (by simp [u8s, hj])).2
theorem rfs_len (l : List UInt8) : ∀ (n : Nat) (s : Std) xs, (rfs l n s).1 = some xs → xs.length = n
  | 0, s, xs, h => by injection h with h; subst h; rfl
  | n + 1, s, xs, h => by
    unfold rfs at h
    split at h
    · exact absurd h (by simp)
    · cases h9 : (rfs l n (t3 l s)).1 with
      | none => rw [h9] at h; exact absurd h (by simp)
      | some ys =>
        rw [h9] at h
        injection h with h
        subst h
        rw [List.length_cons, rfs_len l n _ ys h9]
theorem gd_few {l : List UInt8} {s : Std} {k e : Int} {ws : List Int} {rs : List Rl} {N1 N2 : Nat} (h : gdV l s = ⟨k, ws, rs, e⟩) (h1 : ws.length = N1) (h2 : rs.length = N2) : N1 ≤ 10000 ∧ N2 ≤ 10000 := by
  have a1 := num_one l (pgS l s 1)
  have a2 := num_one l (gS3 l s)
  have g1 : gN1 l s ≤ 255 := by unfold gN1; omega
  have g2 : gN2 l s ≤ 255 := by unfold gN2; omega
  unfold gdV at h
  split at h
  · injection h with _ h3 h4; subst h3 h4; simp at h1 h2; omega
  · next xs hx =>
    split at h
    · injection h with _ h3 h4; subst h3 h4; simp at h1 h2; omega
    · injection h with _ h3 h4
      subst h3 h4
      rw [wds_len] at h1
      have := rfs_len l _ _ _ hx
      omega
def YW (w : World) (v : Value) (l : List UInt8) : Prop := SlV w w.heap.size v (u8s l)
theorem YW.on {w w' : World} {v : Value} {l : List UInt8} (h : YW w v l) (hb : Below w.heap.size w w') : YW w' v l := (SlV.below h hb).more hb.size

set_option maxRecDepth 100000 in
set_option maxHeartbeats 8000000 in
theorem dataOctets_any (w : World) (kd : Int) (AW AR A2 : Option Addr) (nW cW nR cR n2 c2 : Nat) (ws : List Int) (rs : List Rl) (bs : List UInt8) (hT : Si.Txs w) (h1 : IW w (.slice AW nW cW) ws) (hL : ws.length = nW) (h2 : RlL w AR nR cR rs) (hm : bs.length = n2) (hb : SlV w w.heap.size (.slice A2 n2 c2) (u8s bs)) :
    Calls Tryd.prog 4 #[.agg #[.int .i64 kd, .slice AW nW cW, .slice AR nR cR], .slice A2 n2 c2] w (TAns w) := by
  obtain ⟨W1, hW1⟩ : ∃ W1, w.alloc (.cells #[.int .i64 kd, .slice AW nW cW, .slice AR nR cR] 25) = W1 := ⟨_, rfl⟩
  have hb0 : Below w.heap.size w W1 := by rw [← hW1]; exact alloc_ _ _
  have HB0 := Lib.hid hb0
  have RK := Lib.hid (show BK W1 w.heap.size (.int .i64 kd) (.slice AW nW cW) (.slice AR nR cR) from by rw [← hW1]; exact Blk.new w _ _)
  have RX := Lib.hid (TX.on hT hb0)
  have RI := Lib.hid (IW.on h1 hb0)
  have RR := Lib.hid (RlL.on h2 hb0)
  have RY := Lib.hid (YW.on hb hb0)
  have HF := Lib.hid (fewD_any W1 kd AW AR nW cW nR cR)
  obtain ⟨bf, hbf⟩ : ∃ b, fewD nW nR = b := ⟨_, rfl⟩
  rw [hbf] at HF
  obtain ⟨c0, c1, c2'⟩ := BK.cells RK.out
  cases bf with
  | false =>
    clear hbf hT h1 hL h2 hm hb hb0
    go_enter Tryd.func4, Tryd.ntmps4
    go_wp2_with fail
    refine HF.out.mono ?_
    rintro e w1 ⟨rfl, b1⟩
    have HB1 := Lib.hid (to_ HB0.out b1)
    have RX1 := Lib.hid (RX.out.on b1)
    clear b1
    go_wp2_with fail
    refine (known15_any _ RX1.out).mono ?_
    rintro e w9 ⟨rfl, b9⟩
    have HB9 := Lib.hid (to_ HB1.out b9)
    clear b9
    go_wp2_with fail
    go_ret
    exact ⟨rfl, HB9.out⟩
  | true =>
    have hfw : nW ≤ 100 ∧ nR ≤ 100 := of_decide_eq_true hbf
    by_cases h9 : 1000 < n2
    · have e2 : (1000 : Int) < (n2 : Int) := by omega
      clear hbf hT h1 hL h2 hm hb hb0 hfw h9
      go_enter Tryd.func4, Tryd.ntmps4
      go_wp2_with fail
      refine HF.out.mono ?_
      rintro e w1 ⟨rfl, b1⟩
      have HB1 := Lib.hid (to_ HB0.out b1)
      have RX1 := Lib.hid (RX.out.on b1)
      clear b1
      go_wp2_with fail
      refine (known15_any _ RX1.out).mono ?_
      rintro e w9 ⟨rfl, b9⟩
      have HB9 := Lib.hid (to_ HB1.out b9)
      clear b9
      go_wp2_with fail
      go_ret
      exact ⟨rfl, HB9.out⟩
    · have e2 : ¬ (1000 : Int) < (n2 : Int) := by omega
      have HPT := Lib.hid (show ∀ W, IW W (.slice AW nW cW) ws → RlL W AR nR cR rs → YW W (.slice A2 n2 c2) bs → Calls Tryd.prog 15 #[.slice A2 n2 c2, .agg #[.int .i64 kd, .slice AW nW cW, .slice AR nR cR]] W fun e w' => ∃ v', e = .returned v' ∧ YW w' v' (bs ++ dtB kd ws rs) ∧ Below W.heap.size W w' from fun W hi hr hy => (putD_any W A2 n2 c2 bs kd AW AR nW cW nR cR ws rs hm hy (by omega) hi hL (by omega) hr (by omega)).mono fun e w' ho => by
        obtain ⟨A, c, e1, h2, h3⟩ := ho
        exact ⟨_, e1, h2, h3⟩)
      have HRP := Lib.hid (show ∀ W, IW W (.slice AW nW cW) ws → RlL W AR nR cR rs → YW W (.slice A2 n2 c2) bs → Calls Tryd.prog 16 #[.slice A2 n2 c2, .agg #[.int .i64 kd, .slice AW nW cW, .slice AR nR cR]] W fun e w' => ∃ v', e = .returned v' ∧ YW w' v' (bs ++ dtB kd ws rs) ∧ Below W.heap.size W w' from fun W hi hr hy => (rputD_any W _ bs kd AW AR nW cW nR cR ws rs hy (by omega) hi hL (by omega) hr (by omega)).mono fun e w' ho => by
        obtain ⟨A, c, e1, h2, h3⟩ := ho
        exact ⟨_, e1, h2, h3⟩)
      have HT1 := Lib.hid (show ∀ W v, YW W v (bs ++ dtB kd ws rs) → (convert 36 9 v).run Tryd.prog W = .ok (.string ⟨(bs ++ dtB kd ws rs).toArray⟩) W from fun _ _ h => text_of h)
      obtain ⟨TT, hTT⟩ : ∃ T : ByteArray, ⟨(bs ++ dtB kd ws rs).toArray⟩ = T := ⟨_, rfl⟩
      rw [hTT] at HT1
      generalize bs ++ dtB kd ws rs = TL at HT1 HPT HRP
      have HNW := Lib.hid (show ∀ W, YW W (.slice A2 n2 c2) bs → Calls Tryd.prog 17 #[.slice A2 n2 c2] W (Made W bs) from fun W hW => new_any _ bs W W.heap.size hW (by omega))
      obtain ⟨G, hG⟩ : ∃ G, gdV bs (0, true) = G := ⟨_, rfl⟩
      obtain ⟨S, hS⟩ : ∃ S, (gR bs (0, true)).2 = S := ⟨_, rfl⟩
      have HGT := Lib.hid (show ∀ W g A c, RdS W g A c bs (0, true) → Calls Tryd.prog 18 #[.pointer (some ⟨g, 0, none⟩)] W (GtAns G S W g A c bs) from fun W g A c hr => by rw [← hG, ← hS]; exact getD_any W g A c bs (0, true) hr)
      have HRG := Lib.hid (show ∀ W, YW W (.slice A2 n2 c2) bs → Calls Tryd.prog 19 #[.agg #[.slice A2 n2 c2, .int .i64 0, .bool false]] W (RgAns G S W A2 n2 c2) from fun W hW => by
        rw [← hG, ← hS]
        exact rgetD_any W A2 n2 c2 bs (0, true) hm (by omega) (by simp) hW)
      obtain ⟨gk, gw, gr, ge⟩ := G
      obtain ⟨N1, hN1⟩ : ∃ N, gw.length = N := ⟨_, rfl⟩
      obtain ⟨N2, hN2⟩ : ∃ N, gr.length = N := ⟨_, rfl⟩
      unfold GtAns at HGT
      unfold RgAns rdC at HRG
      dsimp only at HGT HRG
      rw [hN1, hN2] at HGT HRG
      have HN1 := Lib.hid hN1
      have HGB := Lib.hid (show N1 ≤ 10000 ∧ N2 ≤ 10000 from gd_few hG hN1 hN2)
      clear h9 hfw hbf hT h1 hL h2 hm hb hb0 hTT hG hS hN1 hN2
      go_enter Tryd.func4, Tryd.ntmps4
      go_wp2_with fail
      refine (HF.out).mono ?_
      rintro e w1 ⟨rfl, b1⟩
      have Ri1 := Lib.hid (RI.out.on b1)
      have Rr1 := Lib.hid (RR.out.on b1)
      have Rx1 := Lib.hid (RX.out.on b1)
      have Rk1 := Lib.hid (RK.out.on b1)
      have Ry1 := Lib.hid (RY.out.on b1)
      have HB1 := Lib.hid (to_ HB0.out b1)
      clear b1 RI RR RX RK RY HB0
      clear hW1 c0 c1 c2'
      obtain ⟨c0, c1, c2'⟩ := BK.cells Rk1.out
      go_wp2_with fail
      clear c0 c1 c2'
      have MK1 := Lib.hid (show ∀ W, Below w1.heap.size w1 W → (fun W => (W.cell? ⟨w.heap.size, 0, none⟩ = some (.int .i64 kd) ∧ W.cell? ⟨w.heap.size, 1, none⟩ = some (.slice AW nW cW) ∧ W.cell? ⟨w.heap.size, 2, none⟩ = some (.slice AR nR cR)) ∧ Below w1.heap.size w1 W) W from fun W hb => ⟨BK.cells (Rk1.out.on hb), hb⟩)
      refine wp_region_noPanic ?_
      refine wp_region_held_drew (S := fun W => (W.cell? ⟨w.heap.size, 0, none⟩ = some (.int .i64 kd) ∧ W.cell? ⟨w.heap.size, 1, none⟩ = some (.slice AW nW cW) ∧ W.cell? ⟨w.heap.size, 2, none⟩ = some (.slice AR nR cR)) ∧ Below w1.heap.size w1 W) (by kernel_rfl) (MK1.out _ (Below.refl _ _).drew) (fun hHeld => ?_)
      refine wpAnyH_take (i := 0) rfl (by kernel_rfl) (by kernel_rfl) (by kernel_rfl) (fun _ _ _ h => h) (Or.inl ⟨by rfl, by intro W hSW; (try dsimp only at hSW); go_simp; try (with_reducible rfl)⟩) hHeld ?_
      try simp only [Act.put, List.getElem_toArray, List.getElem_cons_zero, List.getElem_cons_succ, List.setIfInBounds_toArray, List.set_cons_zero, List.set_cons_succ]
      refine wpAnyH_take (i := 1) rfl (by kernel_rfl) (by kernel_rfl) (by kernel_rfl) (fun _ _ _ h => h) (Or.inl ⟨by rfl, by intro W hSW; (try dsimp only at hSW); go_simp; try (with_reducible rfl)⟩) hHeld ?_
      try simp only [Act.put, List.getElem_toArray, List.getElem_cons_zero, List.getElem_cons_succ, List.setIfInBounds_toArray, List.set_cons_zero, List.set_cons_succ]
      refine wpAnyH_take (i := 4) rfl (by kernel_rfl) (by kernel_rfl) (by kernel_rfl) (fun _ _ _ h => h) (Or.inl ⟨by rfl, by intro W hSW; (try dsimp only at hSW); go_simp; try (with_reducible rfl)⟩) hHeld ?_
      try simp only [Act.put, List.getElem_toArray, List.getElem_cons_zero, List.getElem_cons_succ, List.setIfInBounds_toArray, List.set_cons_zero, List.set_cons_succ]
      refine wpAnyH_take (i := 5) rfl (by kernel_rfl) (by kernel_rfl) (by kernel_rfl) (fun _ _ _ h => h) (Or.inl ⟨by rfl, by intro W hSW; (try dsimp only at hSW); go_simp; try (with_reducible rfl)⟩) hHeld ?_
      try simp only [Act.put, List.getElem_toArray, List.getElem_cons_zero, List.getElem_cons_succ, List.setIfInBounds_toArray, List.set_cons_zero, List.set_cons_succ]
      refine wpAnyH_ready (rs := [2]) (by kernel_rfl) (by simp) ?_
      refine AllReadyH.cons rfl (fun K hK => ?_) AllReadyH.nil
      go_simp
      refine (HPT.out _ (Ri1.out.on hHeld.2) (Rr1.out.on hHeld.2) (Ry1.out.on hHeld.2)).mono ?_
      rintro e w6 ⟨v1, rfl, hs6, qb⟩
      have q6 := to_ hHeld.2 qb
      try go_wp2_with fail
      refine hK.out _ _ (MK1.out _ q6) ?_
      clear hK K hHeld
      intro hHeld
      try simp only [Act.put, List.getElem_toArray, List.getElem_cons_zero, List.getElem_cons_succ, List.setIfInBounds_toArray, List.set_cons_zero, List.set_cons_succ]
      have HS6 := Lib.hid hs6
      have HB6 := Lib.hid q6
      clear hs6 q6 qb
      have MK2 := Lib.hid (show ∀ w', Below w6.heap.size w6 w' → (fun W => (convert 36 9 v1).run Tryd.prog W = .ok (.string TT) W ∧ Below w6.heap.size w6 W) w' from fun w' hb => ⟨HT1.out _ _ (HS6.out.on hb), hb⟩)
      refine Mem.wpAnyH_mono (fun W => (convert 36 9 v1).run Tryd.prog W = .ok (.string TT) W ∧ Below w6.heap.size w6 W) (fun w' h => MK1.out _ (to_ HB6.out h.2)) _ _ _ _ ?_
      clear hHeld
      have hHeld := MK2.out _ (Below.refl _ _)
      refine wpAnyH_take (i := 3) rfl (by kernel_rfl) (by kernel_rfl) (by kernel_rfl) (fun _ _ _ h => h) (Or.inl ⟨by rfl, by intro W hSW; (try dsimp only at hSW); go_simp; try (with_reducible rfl)⟩) hHeld ?_
      try simp only [Act.put, List.getElem_toArray, List.getElem_cons_zero, List.getElem_cons_succ, List.setIfInBounds_toArray, List.set_cons_zero, List.set_cons_succ]
      refine wpAnyH_ready (rs := [6]) (by kernel_rfl) (by simp) ?_
      refine AllReadyH.cons rfl (fun K hK => ?_) AllReadyH.nil
      go_simp
      have q7 := to_ HB6.out hHeld.2
      refine (HRP.out _ (Ri1.out.on q7) (Rr1.out.on q7) (Ry1.out.on q7)).mono ?_
      rintro e w7 ⟨v2, rfl, hs7, qb⟩
      try go_wp2_with fail
      refine hK.out _ _ (MK2.out _ (to_ hHeld.2 qb)) ?_
      clear hK K hHeld
      intro hHeld
      try simp only [Act.put, List.getElem_toArray, List.getElem_cons_zero, List.getElem_cons_succ, List.setIfInBounds_toArray, List.set_cons_zero, List.set_cons_succ]
      have hc7 := HT1.out _ _ hs7
      have b17 := to_ q7 qb
      clear hs7 qb q7
      refine wpAnyH_ready (rs := [7]) (by kernel_rfl) (by simp) ?_
      refine AllReadyH.cons rfl (fun K hK => ?_) AllReadyH.nil
      go_simp
      refine hK.out _ _ (hHeld) ?_
      clear hK K hHeld
      intro hHeld
      try simp only [Act.put, List.getElem_toArray, List.getElem_cons_zero, List.getElem_cons_succ, List.setIfInBounds_toArray, List.set_cons_zero, List.set_cons_succ]
      clear hc7
      refine wpAnyH_take (i := 8) rfl (by kernel_rfl) (by kernel_rfl) (by kernel_rfl) (fun _ _ _ h => h) (Or.inl ⟨by rfl, by intro W hSW; (try dsimp only at hSW); go_simp; try (with_reducible rfl)⟩) hHeld ?_
      try simp only [Act.put, List.getElem_toArray, List.getElem_cons_zero, List.getElem_cons_succ, List.setIfInBounds_toArray, List.set_cons_zero, List.set_cons_succ]
      refine wpAnyH_done (by kernel_rfl) ?_ _
      refine NoPanic.normal ?_
      have Ry7 := Lib.hid (Ry1.out.on b17)
      have Rx7 := Lib.hid (Rx1.out.on b17)
      have HB7 := Lib.hid (to_ HB1.out b17)
      clear hHeld MK1 MK2 HS6 HB6 HT1 HPT HRP b17 Ri1 Rr1 Rk1 Ry1 Rx1 HB1
      go_wp2_with fail
      refine (HNW.out _ Ry7.out).mono ?_
      rintro e w8 ⟨g, A, c, rfl, hg, hr, b8⟩
      have HG8 := Lib.hid hg
      have HR8 := Lib.hid hr
      have HB8 := Lib.hid b8
      clear hr b8 hg
      go_wp2_with fail
      refine (HGT.out _ _ _ _ HR8.out).mono ?_
      rintro e w9 ⟨BW, dW, BR, dR, rfl, hx, hx2, hrd, hgr⟩
      have b9 : Below w7.heap.size w7 w9 := HB8.out.grown hgr HB8.out.size (fun r e => by injection e with e; have := HG8.out; omega)
      obtain ⟨w10, hw10⟩ : ∃ w10, w9.alloc (.cells #[.int .i64 gk, .slice BW N1 dW, .slice BR N2 dR] 25) = w10 := ⟨_, rfl⟩
      have b10 : Below w9.heap.size w9 w10 := by rw [← hw10]; exact alloc_ _ _
      have b710 := to_ b9 b10
      have Ry10 := Lib.hid (Ry7.out.on b710)
      have Rx10 := Lib.hid (Rx7.out.on b710)
      have HB10 := Lib.hid (to_ HB7.out b710)
      have Ri10 := Lib.hid (hx.on b10)
      have Rr10 := Lib.hid (hx2.on b10)
      have Rk10 := Lib.hid (show BK w10 w9.heap.size (.int .i64 gk) (.slice BW N1 dW) (.slice BR N2 dR) from by rw [← hw10]; exact Blk.new w9 _ _)
      have Rd10 := Lib.hid (show Rdr w10 g A c bs S.1 S.2 from Rdr.below (show Rdr w9 g A c bs S.1 S.2 from hrd) b10 (Rdr.blk (show Rdr w9 g A c bs S.1 S.2 from hrd)).lt)
      clear hx hx2 hrd hgr b9 b10 b710 HG8 HR8 HB8 HB7 Ry7 Rx7 HNW HGT
      go_wp2_with fail
      clear hw10
      refine (HRG.out _ Ry10.out).mono ?_
      rintro e w11 ⟨st, EW, fW, ER, fR, rfl, hy, hy2, hst, b11⟩
      obtain ⟨w12, hw12⟩ : ∃ w12, (w11.alloc (.cells #[.slice A2 n2 c2, .int .i64 (st.1 : Int), .bool (!st.2)] 43)).alloc (.cells #[.int .i64 gk, .slice EW N1 fW, .slice ER N2 fR] 25) = w12 := ⟨_, rfl⟩
      have b12 : Below w11.heap.size w11 w12 := by rw [← hw12]; exact to_ (alloc_ _ _) (alloc_ _ _)
      have b1012 := to_ b11 b12
      have Rx12 := Lib.hid (Rx10.out.on b1012)
      have HB12 := Lib.hid (to_ HB10.out b1012)
      have Ri12 := Lib.hid (Ri10.out.on b1012)
      have Rr12 := Lib.hid (Rr10.out.on b1012)
      have Rk12 := Lib.hid (Rk10.out.on b1012)
      have Rj12 := Lib.hid (hy.on b12)
      have Rq12 := Lib.hid (hy2.on b12)
      have Rd12 := Lib.hid (Rdr.below Rd10.out b1012 Rd10.out.blk.lt)
      have Rm12 := Lib.hid (show BK w12 (w11.heap.size + 1) (.int .i64 gk) (.slice EW N1 fW) (.slice ER N2 fR) from by rw [← hw12]; exact blk_at (Blk.new _ _ _) (by simp))
      have Rz12 := Lib.hid (show Blk w12 w11.heap.size 43 #[.slice A2 n2 c2, .int .i64 (st.1 : Int), .bool (!st.2)] from by rw [← hw12]; exact (Blk.new w11 _ _).alloc _)
      have HST := Lib.hid hst
      have MK8 := Lib.hid (show ∀ W, Below w12.heap.size w12 W → (fun W => ((W.cell? ⟨w9.heap.size, 0, none⟩ = some (.int .i64 gk) ∧ W.cell? ⟨w9.heap.size, 1, none⟩ = some (.slice BW N1 dW) ∧ W.cell? ⟨w9.heap.size, 2, none⟩ = some (.slice BR N2 dR)) ∧ (W.cell? ⟨w11.heap.size + 1, 0, none⟩ = some (.int .i64 gk) ∧ W.cell? ⟨w11.heap.size + 1, 1, none⟩ = some (.slice EW N1 fW) ∧ W.cell? ⟨w11.heap.size + 1, 2, none⟩ = some (.slice ER N2 fR)) ∧ W.cell? ⟨w11.heap.size, 1, none⟩ = some (.int .i64 (st.1 : Int))) ∧ Below w12.heap.size w12 W) W from fun W hb => ⟨⟨BK.cells (Rk12.out.on hb), BK.cells (Rm12.out.on hb), (hb.cell Rz12.out.lt).trans (Rz12.out.cell 1)⟩, hb⟩)
      clear hy hy2 hst b11 b12 b1012 HRG Ry10 Rx10 HB10 Ri10 Rr10 Rk10 Rd10
      by_cases hE : ge = 0
      · subst hE
        obtain rfl := HST.out rfl
        clear HST
        go_wp2_with fail
        clear hw12
        refine wp_region_noPanic ?_
        refine wp_region_held_drew (S := fun W => ((W.cell? ⟨w9.heap.size, 0, none⟩ = some (.int .i64 gk) ∧ W.cell? ⟨w9.heap.size, 1, none⟩ = some (.slice BW N1 dW) ∧ W.cell? ⟨w9.heap.size, 2, none⟩ = some (.slice BR N2 dR)) ∧ (W.cell? ⟨w11.heap.size + 1, 0, none⟩ = some (.int .i64 gk) ∧ W.cell? ⟨w11.heap.size + 1, 1, none⟩ = some (.slice EW N1 fW) ∧ W.cell? ⟨w11.heap.size + 1, 2, none⟩ = some (.slice ER N2 fR)) ∧ W.cell? ⟨w11.heap.size, 1, none⟩ = some (.int .i64 (st.1 : Int))) ∧ Below w12.heap.size w12 W) (by kernel_rfl) (MK8.out _ (Below.refl _ _).drew) (fun hHeld => ?_)
        refine wpAnyH_take (i := 0) rfl (by kernel_rfl) (by kernel_rfl) (by kernel_rfl) (fun _ _ _ h => h) (Or.inl ⟨by rfl, by intro W hSW; (try dsimp only at hSW); go_simp; try (with_reducible rfl)⟩) hHeld ?_
        try simp only [Act.put, List.getElem_toArray, List.getElem_cons_zero, List.getElem_cons_succ, List.setIfInBounds_toArray, List.set_cons_zero, List.set_cons_succ]
        refine wpAnyH_take (i := 1) rfl (by kernel_rfl) (by kernel_rfl) (by kernel_rfl) (fun _ _ _ h => h) (Or.inl ⟨by rfl, by intro W hSW; (try dsimp only at hSW); go_simp; try (with_reducible rfl)⟩) hHeld ?_
        try simp only [Act.put, List.getElem_toArray, List.getElem_cons_zero, List.getElem_cons_succ, List.setIfInBounds_toArray, List.set_cons_zero, List.set_cons_succ]
        refine wpAnyH_ready (rs := [2]) (by kernel_rfl) (by simp) ?_
        refine AllReadyH.cons rfl (fun K hK => ?_) AllReadyH.nil
        go_simp
        refine (same_same _ gk BW EW BR ER N1 dW fW N2 dR fR gw gr (Ri12.out.on hHeld.2) (Rj12.out.on hHeld.2) HN1.out HGB.out.1 (Rr12.out.on hHeld.2) (Rq12.out.on hHeld.2) HGB.out.2).mono ?_
        rintro e w13 ⟨rfl, b13⟩
        try go_wp2_with fail
        refine hK.out _ _ (MK8.out _ (to_ hHeld.2 b13)) ?_
        clear hK K hHeld
        intro hHeld
        try simp only [Act.put, List.getElem_toArray, List.getElem_cons_zero, List.getElem_cons_succ, List.setIfInBounds_toArray, List.set_cons_zero, List.set_cons_succ]
        clear b13
        refine wpAnyH_take (i := 3) rfl (by kernel_rfl) (by kernel_rfl) (by kernel_rfl) (fun _ _ _ h => h) (Or.inl ⟨by rfl, by intro W hSW; (try dsimp only at hSW); go_simp; try (with_reducible rfl)⟩) hHeld ?_
        try simp only [Act.put, List.getElem_toArray, List.getElem_cons_zero, List.getElem_cons_succ, List.setIfInBounds_toArray, List.set_cons_zero, List.set_cons_succ]
        refine wpAnyH_take (i := 4) rfl (by kernel_rfl) (by kernel_rfl) (by kernel_rfl) (fun _ _ _ h => h) (Or.inl ⟨by rfl, by intro W hSW; (try dsimp only at hSW); go_simp; try (with_reducible rfl)⟩) hHeld ?_
        try simp only [Act.put, List.getElem_toArray, List.getElem_cons_zero, List.getElem_cons_succ, List.setIfInBounds_toArray, List.set_cons_zero, List.set_cons_succ]
        refine wpAnyH_take (i := 5) rfl (by kernel_rfl) (by kernel_rfl) (by kernel_rfl) (fun _ _ _ h => h) (Or.inl ⟨by rfl, by intro W hSW; (try dsimp only at hSW); go_simp; try (with_reducible rfl)⟩) hHeld ?_
        try simp only [Act.put, List.getElem_toArray, List.getElem_cons_zero, List.getElem_cons_succ, List.setIfInBounds_toArray, List.set_cons_zero, List.set_cons_succ]
        refine wpAnyH_take (i := 6) rfl (by kernel_rfl) (by kernel_rfl) (by kernel_rfl) (fun _ _ _ h => h) (Or.inl ⟨by rfl, by intro W hSW; (try dsimp only at hSW); go_simp; try (with_reducible rfl)⟩) hHeld ?_
        try simp only [Act.put, List.getElem_toArray, List.getElem_cons_zero, List.getElem_cons_succ, List.setIfInBounds_toArray, List.set_cons_zero, List.set_cons_succ]
        refine wpAnyH_take (i := 7) rfl (by kernel_rfl) (by kernel_rfl) (by kernel_rfl) (fun _ _ _ h => h) (Or.inl ⟨by rfl, by intro W hSW; (try dsimp only at hSW); go_simp; try (with_reducible rfl)⟩) hHeld ?_
        try simp only [Act.put, List.getElem_toArray, List.getElem_cons_zero, List.getElem_cons_succ, List.setIfInBounds_toArray, List.set_cons_zero, List.set_cons_succ]
        refine wpAnyH_take (i := 8) rfl (by kernel_rfl) (by kernel_rfl) (by kernel_rfl) (fun _ _ _ h => h) (Or.inl ⟨by rfl, by intro W hSW; (try dsimp only at hSW); go_simp; try (with_reducible rfl)⟩) hHeld ?_
        try simp only [Act.put, List.getElem_toArray, List.getElem_cons_zero, List.getElem_cons_succ, List.setIfInBounds_toArray, List.set_cons_zero, List.set_cons_succ]
        refine wpAnyH_take (i := 9) rfl (by kernel_rfl) (by kernel_rfl) (by kernel_rfl) (fun _ _ _ h => h) (Or.inl ⟨by rfl, by intro W hSW; (try dsimp only at hSW); go_simp; try (with_reducible rfl)⟩) hHeld ?_
        try simp only [Act.put, List.getElem_toArray, List.getElem_cons_zero, List.getElem_cons_succ, List.setIfInBounds_toArray, List.set_cons_zero, List.set_cons_succ]
        refine wpAnyH_take (i := 10) rfl (by kernel_rfl) (by kernel_rfl) (by kernel_rfl) (fun _ _ _ h => h) (Or.inl ⟨by rfl, by intro W hSW; (try dsimp only at hSW); go_simp; try (with_reducible rfl)⟩) hHeld ?_
        try simp only [Act.put, List.getElem_toArray, List.getElem_cons_zero, List.getElem_cons_succ, List.setIfInBounds_toArray, List.set_cons_zero, List.set_cons_succ]
        refine wpAnyH_take (i := 11) rfl (by kernel_rfl) (by kernel_rfl) (by kernel_rfl) (fun _ _ _ h => h) (Or.inl ⟨by rfl, by intro W hSW; (try dsimp only at hSW); go_simp; try (with_reducible rfl)⟩) hHeld ?_
        try simp only [Act.put, List.getElem_toArray, List.getElem_cons_zero, List.getElem_cons_succ, List.setIfInBounds_toArray, List.set_cons_zero, List.set_cons_succ]
        refine wpAnyH_take (i := 12) rfl (by kernel_rfl) (by kernel_rfl) (by kernel_rfl) (fun _ _ _ h => h) (Or.inl ⟨by rfl, by intro W hSW; (try dsimp only at hSW); go_simp; try (with_reducible rfl)⟩) hHeld ?_
        try simp only [Act.put, List.getElem_toArray, List.getElem_cons_zero, List.getElem_cons_succ, List.setIfInBounds_toArray, List.set_cons_zero, List.set_cons_succ]
        refine wpAnyH_take (i := 13) rfl (by kernel_rfl) (by kernel_rfl) (by kernel_rfl) (fun _ _ _ h => h) (Or.inl ⟨by rfl, by intro W hSW; (try dsimp only at hSW); go_simp; try (with_reducible rfl)⟩) hHeld ?_
        try simp only [Act.put, List.getElem_toArray, List.getElem_cons_zero, List.getElem_cons_succ, List.setIfInBounds_toArray, List.set_cons_zero, List.set_cons_succ]
        refine wpAnyH_take (i := 15) rfl (by kernel_rfl) (by kernel_rfl) (by kernel_rfl) (fun _ _ _ h => h) (Or.inl ⟨by rfl, by intro W hSW; (try dsimp only at hSW); go_simp; try (with_reducible rfl)⟩) hHeld ?_
        try simp only [Act.put, List.getElem_toArray, List.getElem_cons_zero, List.getElem_cons_succ, List.setIfInBounds_toArray, List.set_cons_zero, List.set_cons_succ]
        refine wpAnyH_take (i := 16) rfl (by kernel_rfl) (by kernel_rfl) (by kernel_rfl) (fun _ _ _ h => h) (Or.inl ⟨by rfl, by intro W hSW; (try dsimp only at hSW); go_simp; try (with_reducible rfl)⟩) hHeld ?_
        try simp only [Act.put, List.getElem_toArray, List.getElem_cons_zero, List.getElem_cons_succ, List.setIfInBounds_toArray, List.set_cons_zero, List.set_cons_succ]
        refine wpAnyH_ready (rs := [14]) (by kernel_rfl) (by simp) ?_
        refine AllReadyH.cons rfl (fun K hK => ?_) AllReadyH.nil
        go_simp
        refine (at_any _ g A c bs st.1 st.2 (Rdr.below Rd12.out hHeld.2 Rd12.out.blk.lt)).mono ?_
        rintro e w14 ⟨rfl, rfl⟩
        try go_wp2_with fail
        refine hK.out _ _ (hHeld) ?_
        clear hK K hHeld
        intro hHeld
        try simp only [Act.put, List.getElem_toArray, List.getElem_cons_zero, List.getElem_cons_succ, List.setIfInBounds_toArray, List.set_cons_zero, List.set_cons_succ]
        refine wpAnyH_take (i := 17) rfl (by kernel_rfl) (by kernel_rfl) (by kernel_rfl) (fun _ _ _ h => h) (Or.inl ⟨by rfl, by intro W hSW; (try dsimp only at hSW); go_simp; try (with_reducible rfl)⟩) hHeld ?_
        try simp only [Act.put, List.getElem_toArray, List.getElem_cons_zero, List.getElem_cons_succ, List.setIfInBounds_toArray, List.set_cons_zero, List.set_cons_succ]
        refine wpAnyH_take (i := 18) rfl (by kernel_rfl) (by kernel_rfl) (by kernel_rfl) (fun _ _ _ h => h) (Or.inl ⟨by rfl, by intro W hSW; (try dsimp only at hSW); go_simp; try (with_reducible rfl)⟩) hHeld ?_
        try simp only [Act.put, List.getElem_toArray, List.getElem_cons_zero, List.getElem_cons_succ, List.setIfInBounds_toArray, List.set_cons_zero, List.set_cons_succ]
        refine wpAnyH_take (i := 19) rfl (by kernel_rfl) (by kernel_rfl) (by kernel_rfl) (fun _ _ _ h => h) (Or.inl ⟨by rfl, by intro W hSW; (try dsimp only at hSW); go_simp; try (with_reducible rfl)⟩) hHeld ?_
        try simp only [Act.put, List.getElem_toArray, List.getElem_cons_zero, List.getElem_cons_succ, List.setIfInBounds_toArray, List.set_cons_zero, List.set_cons_succ]
        refine wpAnyH_done (by kernel_rfl) ?_ _
        refine NoPanic.normal ?_
        have HB13 := Lib.hid (to_ HB12.out hHeld.2)
        have Rx13 := Lib.hid (Rx12.out.on hHeld.2)
        clear hHeld HB12 MK8 Ri12 Rr12 Rk12 Rj12 Rq12 Rd12 Rm12 Rz12 Rx12
        go_wp2_with fail
        refine (getD_nil _).mono ?_
        rintro e w15 ⟨rfl, b15⟩
        have HB15 := Lib.hid (to_ (to_ HB13.out b15) (alloc_ w15 (.cells #[.int .i64 0, .slice none 0 0, .slice none 0 0] 25)))
        have Rx15 := Lib.hid ((Rx13.out.on b15).on (alloc_ w15 (.cells #[.int .i64 0, .slice none 0 0, .slice none 0 0] 25)))
        clear b15 HB13 Rx13
        go_wp2_with fail
        refine (known15_any _ Rx15.out).mono ?_
        rintro e w16 ⟨rfl, b16⟩
        have HB16 := Lib.hid (to_ HB15.out b16)
        clear b16 HB15
        go_wp2_with fail
        go_ret
        exact ⟨rfl, HB16.out⟩
      · clear HST
        go_wp2_with fail
        clear hw12
        refine wp_region_noPanic ?_
        refine wp_region_held_drew (S := fun W => ((W.cell? ⟨w9.heap.size, 0, none⟩ = some (.int .i64 gk) ∧ W.cell? ⟨w9.heap.size, 1, none⟩ = some (.slice BW N1 dW) ∧ W.cell? ⟨w9.heap.size, 2, none⟩ = some (.slice BR N2 dR)) ∧ (W.cell? ⟨w11.heap.size + 1, 0, none⟩ = some (.int .i64 gk) ∧ W.cell? ⟨w11.heap.size + 1, 1, none⟩ = some (.slice EW N1 fW) ∧ W.cell? ⟨w11.heap.size + 1, 2, none⟩ = some (.slice ER N2 fR)) ∧ W.cell? ⟨w11.heap.size, 1, none⟩ = some (.int .i64 (st.1 : Int))) ∧ Below w12.heap.size w12 W) (by kernel_rfl) (MK8.out _ (Below.refl _ _).drew) (fun hHeld => ?_)
        refine wpAnyH_take (i := 0) rfl (by kernel_rfl) (by kernel_rfl) (by kernel_rfl) (fun _ _ _ h => h) (Or.inl ⟨by rfl, by intro W hSW; (try dsimp only at hSW); go_simp; try (with_reducible rfl)⟩) hHeld ?_
        try simp only [Act.put, List.getElem_toArray, List.getElem_cons_zero, List.getElem_cons_succ, List.setIfInBounds_toArray, List.set_cons_zero, List.set_cons_succ]
        refine wpAnyH_take (i := 1) rfl (by kernel_rfl) (by kernel_rfl) (by kernel_rfl) (fun _ _ _ h => h) (Or.inl ⟨by rfl, by intro W hSW; (try dsimp only at hSW); go_simp; try (with_reducible rfl)⟩) hHeld ?_
        try simp only [Act.put, List.getElem_toArray, List.getElem_cons_zero, List.getElem_cons_succ, List.setIfInBounds_toArray, List.set_cons_zero, List.set_cons_succ]
        refine wpAnyH_ready (rs := [2]) (by kernel_rfl) (by simp) ?_
        refine AllReadyH.cons rfl (fun K hK => ?_) AllReadyH.nil
        go_simp
        refine (same_same _ gk BW EW BR ER N1 dW fW N2 dR fR gw gr (Ri12.out.on hHeld.2) (Rj12.out.on hHeld.2) HN1.out HGB.out.1 (Rr12.out.on hHeld.2) (Rq12.out.on hHeld.2) HGB.out.2).mono ?_
        rintro e w13 ⟨rfl, b13⟩
        try go_wp2_with fail
        refine hK.out _ _ (MK8.out _ (to_ hHeld.2 b13)) ?_
        clear hK K hHeld
        intro hHeld
        try simp only [Act.put, List.getElem_toArray, List.getElem_cons_zero, List.getElem_cons_succ, List.setIfInBounds_toArray, List.set_cons_zero, List.set_cons_succ]
        clear b13
        refine wpAnyH_take (i := 3) rfl (by kernel_rfl) (by kernel_rfl) (by kernel_rfl) (fun _ _ _ h => h) (Or.inl ⟨by rfl, by intro W hSW; (try dsimp only at hSW); go_simp; try (with_reducible rfl)⟩) hHeld ?_
        try simp only [Act.put, List.getElem_toArray, List.getElem_cons_zero, List.getElem_cons_succ, List.setIfInBounds_toArray, List.set_cons_zero, List.set_cons_succ]
        refine wpAnyH_take (i := 4) rfl (by kernel_rfl) (by kernel_rfl) (by kernel_rfl) (fun _ _ _ h => h) (Or.inl ⟨by rfl, by intro W hSW; (try dsimp only at hSW); go_simp; try (with_reducible rfl)⟩) hHeld ?_
        try simp only [Act.put, List.getElem_toArray, List.getElem_cons_zero, List.getElem_cons_succ, List.setIfInBounds_toArray, List.set_cons_zero, List.set_cons_succ]
        refine wpAnyH_take (i := 5) rfl (by kernel_rfl) (by kernel_rfl) (by kernel_rfl) (fun _ _ _ h => h) (Or.inl ⟨by rfl, by intro W hSW; (try dsimp only at hSW); go_simp; try (with_reducible rfl)⟩) hHeld ?_
        try simp only [Act.put, List.getElem_toArray, List.getElem_cons_zero, List.getElem_cons_succ, List.setIfInBounds_toArray, List.set_cons_zero, List.set_cons_succ]
        refine wpAnyH_take (i := 6) rfl (by kernel_rfl) (by kernel_rfl) (by kernel_rfl) (fun _ _ _ h => h) (Or.inl ⟨by rfl, by intro W hSW; (try dsimp only at hSW); go_simp; try (with_reducible rfl)⟩) hHeld ?_
        try simp only [Act.put, List.getElem_toArray, List.getElem_cons_zero, List.getElem_cons_succ, List.setIfInBounds_toArray, List.set_cons_zero, List.set_cons_succ]
        refine wpAnyH_take (i := 7) rfl (by kernel_rfl) (by kernel_rfl) (by kernel_rfl) (fun _ _ _ h => h) (Or.inl ⟨by rfl, by intro W hSW; (try dsimp only at hSW); go_simp; try (with_reducible rfl)⟩) hHeld ?_
        try simp only [Act.put, List.getElem_toArray, List.getElem_cons_zero, List.getElem_cons_succ, List.setIfInBounds_toArray, List.set_cons_zero, List.set_cons_succ]
        refine wpAnyH_take (i := 8) rfl (by kernel_rfl) (by kernel_rfl) (by kernel_rfl) (fun _ _ _ h => h) (Or.inl ⟨by rfl, by intro W hSW; (try dsimp only at hSW); go_simp; try (with_reducible rfl)⟩) hHeld ?_
        try simp only [Act.put, List.getElem_toArray, List.getElem_cons_zero, List.getElem_cons_succ, List.setIfInBounds_toArray, List.set_cons_zero, List.set_cons_succ]
        refine wpAnyH_take (i := 9) rfl (by kernel_rfl) (by kernel_rfl) (by kernel_rfl) (fun _ _ _ h => h) (Or.inl ⟨by rfl, by intro W hSW; (try dsimp only at hSW); go_simp; try (with_reducible rfl)⟩) hHeld ?_
        try simp only [Act.put, List.getElem_toArray, List.getElem_cons_zero, List.getElem_cons_succ, List.setIfInBounds_toArray, List.set_cons_zero, List.set_cons_succ]
        refine wpAnyH_take (i := 10) rfl (by kernel_rfl) (by kernel_rfl) (by kernel_rfl) (fun _ _ _ h => h) (Or.inl ⟨by rfl, by intro W hSW; (try dsimp only at hSW); go_simp; try (with_reducible rfl)⟩) hHeld ?_
        try simp only [Act.put, List.getElem_toArray, List.getElem_cons_zero, List.getElem_cons_succ, List.setIfInBounds_toArray, List.set_cons_zero, List.set_cons_succ]
        refine wpAnyH_take (i := 11) rfl (by kernel_rfl) (by kernel_rfl) (by kernel_rfl) (fun _ _ _ h => h) (Or.inl ⟨by rfl, by intro W hSW; (try dsimp only at hSW); go_simp; try (with_reducible rfl)⟩) hHeld ?_
        try simp only [Act.put, List.getElem_toArray, List.getElem_cons_zero, List.getElem_cons_succ, List.setIfInBounds_toArray, List.set_cons_zero, List.set_cons_succ]
        rw [show (ge == 0) = false from by simpa using hE]
        refine wpAnyH_take (i := 12) rfl (by kernel_rfl) (by kernel_rfl) (by kernel_rfl) (fun _ _ _ h => h) (Or.inl ⟨by rfl, by intro W hSW; (try dsimp only at hSW); go_simp; try (with_reducible rfl)⟩) hHeld ?_
        try simp only [Act.put, List.getElem_toArray, List.getElem_cons_zero, List.getElem_cons_succ, List.setIfInBounds_toArray, List.set_cons_zero, List.set_cons_succ]
        refine wpAnyH_take (i := 13) rfl (by kernel_rfl) (by kernel_rfl) (by kernel_rfl) (fun _ _ _ h => h) (Or.inr ⟨by rfl, rfl⟩) hHeld ?_
        try simp only [Act.put, List.getElem_toArray, List.getElem_cons_zero, List.getElem_cons_succ, List.setIfInBounds_toArray, List.set_cons_zero, List.set_cons_succ]
        refine wpAnyH_take (i := 14) rfl (by kernel_rfl) (by kernel_rfl) (by kernel_rfl) (fun _ _ _ h => h) (Or.inr ⟨by rfl, rfl⟩) hHeld ?_
        try simp only [Act.put, List.getElem_toArray, List.getElem_cons_zero, List.getElem_cons_succ, List.setIfInBounds_toArray, List.set_cons_zero, List.set_cons_succ]
        refine wpAnyH_take (i := 15) rfl (by kernel_rfl) (by kernel_rfl) (by kernel_rfl) (fun _ _ _ h => h) (Or.inr ⟨by rfl, rfl⟩) hHeld ?_
        try simp only [Act.put, List.getElem_toArray, List.getElem_cons_zero, List.getElem_cons_succ, List.setIfInBounds_toArray, List.set_cons_zero, List.set_cons_succ]
        refine wpAnyH_take (i := 16) rfl (by kernel_rfl) (by kernel_rfl) (by kernel_rfl) (fun _ _ _ h => h) (Or.inr ⟨by rfl, rfl⟩) hHeld ?_
        try simp only [Act.put, List.getElem_toArray, List.getElem_cons_zero, List.getElem_cons_succ, List.setIfInBounds_toArray, List.set_cons_zero, List.set_cons_succ]
        refine wpAnyH_take (i := 17) rfl (by kernel_rfl) (by kernel_rfl) (by kernel_rfl) (fun _ _ _ h => h) (Or.inr ⟨by rfl, rfl⟩) hHeld ?_
        try simp only [Act.put, List.getElem_toArray, List.getElem_cons_zero, List.getElem_cons_succ, List.setIfInBounds_toArray, List.set_cons_zero, List.set_cons_succ]
        refine wpAnyH_take (i := 18) rfl (by kernel_rfl) (by kernel_rfl) (by kernel_rfl) (fun _ _ _ h => h) (Or.inl ⟨by rfl, by intro W hSW; (try dsimp only at hSW); go_simp; try (with_reducible rfl)⟩) hHeld ?_
        try simp only [Act.put, List.getElem_toArray, List.getElem_cons_zero, List.getElem_cons_succ, List.setIfInBounds_toArray, List.set_cons_zero, List.set_cons_succ]
        refine wpAnyH_take (i := 19) rfl (by kernel_rfl) (by kernel_rfl) (by kernel_rfl) (fun _ _ _ h => h) (Or.inl ⟨by rfl, by intro W hSW; (try dsimp only at hSW); go_simp; try (with_reducible rfl)⟩) hHeld ?_
        try simp only [Act.put, List.getElem_toArray, List.getElem_cons_zero, List.getElem_cons_succ, List.setIfInBounds_toArray, List.set_cons_zero, List.set_cons_succ]
        refine wpAnyH_done (by kernel_rfl) ?_ _
        refine NoPanic.normal ?_
        have HB13 := Lib.hid (to_ HB12.out hHeld.2)
        have Rx13 := Lib.hid (Rx12.out.on hHeld.2)
        clear hHeld HB12 MK8 Ri12 Rr12 Rk12 Rj12 Rq12 Rd12 Rm12 Rz12 Rx12
        go_wp2_with fail
        refine (getD_nil _).mono ?_
        rintro e w15 ⟨rfl, b15⟩
        have HB15 := Lib.hid (to_ (to_ HB13.out b15) (alloc_ w15 (.cells #[.int .i64 0, .slice none 0 0, .slice none 0 0] 25)))
        have Rx15 := Lib.hid ((Rx13.out.on b15).on (alloc_ w15 (.cells #[.int .i64 0, .slice none 0 0, .slice none 0 0] 25)))
        clear b15 HB13 Rx13
        go_wp2_with fail
        refine (known15_any _ Rx15.out).mono ?_
        rintro e w16 ⟨rfl, b16⟩
        have HB16 := Lib.hid (to_ HB15.out b16)
        clear b16 HB15
        go_wp2_with fail
        go_ret
        exact ⟨rfl, HB16.out⟩
end Go.Proofs.YthkbdclnnpcoiaaDoor.By
