/-
  THE LAW FunOctets: the bytes of any function, and the next function of any bytes, are what the document says. (Kl in one)
-/
import Derived.Test.YtbknmapkdjmcjaaGreatDoorLy
import Derived.Test.YtbknmapkdjmcjaaGreatDoorLz
import Derived.Test.YtbknmapkdjmcjaaGreatDoorJw
import Derived.Test.YtbknmapkdjmcjaaGreatDoorJg
import Derived.Test.YtbknmapkdjmcjaaGreatDoorTx
import Derived.Test.YtbknmapkdjmcjaaGreatDoorHm
import Derived.Lib.SlBytesConst

namespace Go.Proofs.YtbknmapkdjmcjaaGreatDoor.By
open Go.RowKit
open Mem Gm Rf
set_option linter.unusedSimpArgs false
set_option linter.unusedVariables false

theorem text_of {w : World} {B : Nat} {v : Value} {l : List UInt8} (h : SlV w B v (u8s l)) : (convert 35 9 v).run Tryz.prog w = .ok (.string ⟨l.toArray⟩) w := by
  generalize hu : u8s l = us at h
  cases h with
  | nil =>
    obtain rfl : l = [] := by simpa [u8s] using hu
    exact run_convert_bytes_nil w 35 5 Tryz.underlying35 Tryz.underlying5 0 0 9 Tryz.underlying9
  | at_ ad cap _ hc hm h =>
    subst hu
    rw [u8s_length]
    exact run_convert_bytes_back w 35 9 5 ad cap l Tryz.underlying35 Tryz.underlying5 Tryz.underlying9 fun j hj => (h j _ (by simp [u8s, hj])).2
theorem nv_one (l : List UInt8) (q : Sw) : (nvS l q 1).toNat ≤ 255 := by
  have := num_one l q.1
  unfold nvS
  omega
theorem ge_few (l : List UInt8) (s : Std) : (geV l s).ks.length ≤ 1000 ∧ (geV l s).ls.length ≤ 1000 ∧ (geV l s).cs.length ≤ 1000 ∧ (geV l s).rs.length ≤ 1000 := by
  unfold geV
  split
  · unfold fuV
    refine ⟨?_, ?_, ?_, ?_⟩ <;>
    · dsimp only
      unfold sevV
      rw [vls_len]
      have := nv_one l (fq1 l (s, 0))
      have := nv_one l (fq6 l (s, 0))
      have := nv_one l (fq7 l (s, 0))
      have := nv_one l (fq8 l (s, 0))
      omega
  · unfold fn0; simp
theorem ge_none : geE [] (0, false) = 5 ∧ geV [] (0, false) = fn0 := by
  have h1 : (fq1 [] ((0, false), 0)).2 = 5 := by
    unfold fq1 wdS
    rw [if_neg (by rw [show ((((0 : Nat), false), (0 : Int)) : Sw).1 = (0, false) from rfl, (pg_bad (l := []) (s := (0, false)) rfl 1).1]; decide)]
    rfl
  have h9 : (fq9 [] ((0, false), 0)).2 = 5 := by
    have hs : Stk fun q => sevS rfS [] (sevS inS5 [] (sevS lnS [] (wdS [] (wdS [] (fgS [] (wdS [] (sevS nmS1 [] q) 2)) 1) 1))) :=
      (sevS_stk [] (rfS_stk [])).comp ((sevS_stk [] (inS5_stk [])).comp ((sevS_stk [] (lnS_stk [])).comp ((wdS_stk [] 1).comp ((wdS_stk [] 1).comp ((fgS_stk []).comp ((wdS_stk [] 2).comp (sevS_stk [] (wdS_stk [] 1))))))))
    have h2 := hs (fq1 [] ((0, false), 0)) (by rw [h1]; decide)
    exact h2.trans h1
  refine ⟨h9, ?_⟩
  unfold geV
  rw [h9]
  rfl

set_option maxRecDepth 100000 in
set_option maxHeartbeats 4000000 in
theorem funOctets_any (w : World) (AK AL AC AR : Option Addr) (nK cK nL cL nC cC nR cR : Nat) (x : Fn) (A2 : Option Addr) (n2 c2 : Nat) (bs : List UInt8) (hF : FnW w AK nK cK AL nL cL AC nC cC AR nR cR x) (hb2 : SlV w w.heap.size (.slice A2 n2 c2) (u8s bs)) (hl2 : bs.length = n2) (hT : TX3 w) (h3 : 3 ≤ w.heap.size) :
    Calls Tryz.prog 4 #[.agg #[.int .i64 x.k, .slice AK nK cK, .int .i64 x.pd, .bool x.ns, .int .i64 x.f, .int .i64 x.t, .slice AL nL cL, .slice AC nC cC, .slice AR nR cR], .slice A2 n2 c2] w (TAns w) := by
  obtain ⟨W1, hW1⟩ : ∃ W1, w.alloc (.cells #[.int .i64 x.k, .slice AK nK cK, .int .i64 x.pd, .bool x.ns, .int .i64 x.f, .int .i64 x.t, .slice AL nL cL, .slice AC nC cC, .slice AR nR cR] 27) = W1 := ⟨_, rfl⟩
  have hsz1 : w.heap.size < W1.heap.size := by rw [← hW1]; simp
  have HB0 := Lib.hid (show Below w.heap.size w W1 by rw [← hW1]; exact alloc_ _ _)
  have HX := Lib.hid (show ∀ W, Below W1.heap.size W1 W → Blk W w.heap.size 27 #[.int .i64 x.k, .slice AK nK cK, .int .i64 x.pd, .bool x.ns, .int .i64 x.f, .int .i64 x.t, .slice AL nL cL, .slice AC nC cC, .slice AR nR cR] from fun W hb => (hb.block _ hsz1).trans (by rw [← hW1]; exact Blk.new w _ _))
  have HFW := Lib.hid (fewF_any W1 x.k x.pd x.f x.t x.ns AK AL AC AR nK cK nL cL nC cC nR cR)
  have HKN := Lib.hid (fun W (hb : Below W1.heap.size W1 W) => known16_any W (hT.on (to_ HB0.out hb)) (by have := HB0.out.size; have := hb.size; omega))
  have HTX := Lib.hid (fun W (hb : Below W1.heap.size W1 W) => hT.on (to_ HB0.out hb))
  have HFX := Lib.hid (fun W (hb : Below W1.heap.size W1 W) => hF.on (to_ HB0.out hb))
  have HMO := Lib.hid (fun W (hb : Below W1.heap.size W1 W) => (show SlV W W.heap.size (.slice A2 n2 c2) (u8s bs) from (hb2.below (to_ HB0.out hb)).more (to_ HB0.out hb).size))
  have H3 := Lib.hid (show 3 ≤ W1.heap.size by have := HB0.out.size; omega)
  have HL2 := Lib.hid hl2
  obtain ⟨bf, hbf⟩ : ∃ b, fewB nK nL nC nR = b := ⟨_, rfl⟩
  rw [hbf] at HFW
  obtain ⟨p0, p1, p2, p3, p4, p5, p6, p7, p8⟩ := blk9 (HX.out W1 (Below.refl _ _))
  clear hT hb2 h3 hl2
  cases bf with
  | false =>
    clear hbf hF hsz1
    go_enter Tryz.func4, Tryz.ntmps4
    go_wp2_with fail
    refine HFW.out.mono ?_
    rintro e w1 ⟨rfl, b1⟩
    have HB1 := Lib.hid b1
    clear b1
    go_wp2_with fail
    refine (HKN.out _ HB1.out).mono ?_
    rintro e w9 ⟨rfl, b9⟩
    have HB9 := Lib.hid (to_ HB0.out (to_ HB1.out b9))
    clear b9
    go_wp2_with fail
    go_ret
    exact ⟨rfl, HB9.out⟩
  | true =>
    have hn : nK ≤ 100 ∧ nL ≤ 100 ∧ nC ≤ 100 ∧ nR ≤ 100 := by
      unfold fewB at hbf
      simp at hbf
      omega
    by_cases hm : 1200 < n2
    · have hmI : (1200 : Int) < (n2 : Int) := by omega
      clear hbf hF hsz1
      go_enter Tryz.func4, Tryz.ntmps4
      go_wp2_with fail
      refine HFW.out.mono ?_
      rintro e w1 ⟨rfl, b1⟩
      have HB1 := Lib.hid b1
      clear b1
      go_wp2_with fail
      refine (HKN.out _ HB1.out).mono ?_
      rintro e w9 ⟨rfl, b9⟩
      have HB9 := Lib.hid (to_ HB0.out (to_ HB1.out b9))
      clear b9
      go_wp2_with fail
      go_ret
      exact ⟨rfl, HB9.out⟩
    · have hmI : ¬ (1200 : Int) < (n2 : Int) := by omega
      have HPT := Lib.hid (show ∀ W, Below W1.heap.size W1 W → Calls Tryz.prog 22 #[.slice none 0 0, .agg #[.int .i64 x.k, .slice AK nK cK, .int .i64 x.pd, .bool x.ns, .int .i64 x.f, .int .i64 x.t, .slice AL nL cL, .slice AC nC cC, .slice AR nR cR]] W fun e w' => ∃ v', e = .returned v' ∧ SlV w' w'.heap.size v' (u8s (fnB x)) ∧ Below W.heap.size W w' from fun W hb => (putF_any W none 0 0 [] AK AL AC AR nK cK nL cL nC cC nR cR x rfl .nil (by omega) (HFX.out W hb) (by omega) (by omega) (by omega) (by omega)).mono fun e w' ho => by
        obtain ⟨A, c, e1, h2, h3⟩ := ho
        exact ⟨_, e1, h2, h3⟩)
      have HRP := Lib.hid (show ∀ W, Below W1.heap.size W1 W → Calls Tryz.prog 23 #[.slice none 0 0, .agg #[.int .i64 x.k, .slice AK nK cK, .int .i64 x.pd, .bool x.ns, .int .i64 x.f, .int .i64 x.t, .slice AL nL cL, .slice AC nC cC, .slice AR nR cR]] W fun e w' => ∃ v', e = .returned v' ∧ SlV w' w'.heap.size v' (u8s (fnB x)) ∧ Below W.heap.size W w' from fun W hb => (rputF_any W _ [] AK AL AC AR nK cK nL cL nC cC nR cR x .nil (by simp) (HFX.out W hb) (by omega) (by omega) (by omega) (by omega)).mono fun e w' ho => by
        obtain ⟨A, c, e1, h2, h3⟩ := ho
        exact ⟨_, e1, h2, h3⟩)
      have HT1 := Lib.hid (show ∀ W v, SlV W W.heap.size v (u8s (fnB x)) → (convert 35 9 v).run Tryz.prog W = .ok (.string ⟨(fnB x).toArray⟩) W from fun _ _ h => text_of h)
      obtain ⟨TT, hTT⟩ : ∃ T : ByteArray, ⟨(fnB x).toArray⟩ = T := ⟨_, rfl⟩
      rw [hTT] at HT1
      generalize fnB x = TL at HT1 HPT HRP
      have HNW := Lib.hid (show ∀ W, Below W1.heap.size W1 W → Calls Tryz.prog 24 #[.slice A2 n2 c2] W (Made W bs) from fun W hW => new_any _ bs W W.heap.size (HMO.out W hW) (by have := HL2.out; omega))
      have hal := get_alike bs (0, true) rfl
      have hfe := ge_few bs (0, true)
      have HGT := Lib.hid (show ∀ W r A c, Rdr W r A c bs 0 true → TX3 W → 3 ≤ r → Calls Tryz.prog 25 #[.pointer (some ⟨r, 0, none⟩)] W (GfA (geV bs (0, true)) (geE bs (0, true)) (geS bs (0, true)) W (some ⟨r, 0, none⟩) (some r) A c bs) from fun W r A c hr ht h3 => getF_any W (some ⟨r, 0, none⟩) (some r) A c bs (0, true) (.inl ⟨r, rfl, rfl, hr⟩) ht.1 (fun y e => by injection e with e; subst e; exact ⟨h3, hr.blk.lt⟩) (by have := hr.blk.lt; omega))
      have HRG := Lib.hid (show ∀ W, Below W1.heap.size W1 W → Calls Tryz.prog 26 #[.agg #[.slice A2 n2 c2, .int .i64 0, .bool false]] W (GqAns (rqV bs (0, true)) (rqE bs (0, true)) (dRf bs (0, true)).2 W A2 n2 c2) from fun W hW => getQ_any W A2 n2 c2 bs (0, true) HL2.out (by omega) (by simp) (HMO.out W hW))
      rw [← hal.1, ← hal.2.1] at HRG
      have HZS := Lib.hid hal.2.2
      generalize geV bs (0, true) = g at HGT HRG hfe
      generalize geE bs (0, true) = ge at HGT HRG HZS
      generalize geS bs (0, true) = gs at HGT HZS
      generalize (dRf bs (0, true)).2 = rs at HRG HZS
      obtain ⟨mK, hmK⟩ : ∃ m, g.ks.length = m := ⟨_, rfl⟩
      obtain ⟨mL, hmL⟩ : ∃ m, g.ls.length = m := ⟨_, rfl⟩
      obtain ⟨mC, hmC⟩ : ∃ m, g.cs.length = m := ⟨_, rfl⟩
      obtain ⟨mR, hmR⟩ : ∃ m, g.rs.length = m := ⟨_, rfl⟩
      unfold GfA at HGT
      unfold GqAns rdC at HRG
      rw [hmK, hmL, hmC, hmR] at HGT HRG hfe
      have HFE := Lib.hid hfe
      clear hbf hF hsz1 hn hal hfe hTT hmK hmL hmC hmR
      go_enter Tryz.func4, Tryz.ntmps4
      go_wp2_with fail
      refine HFW.out.mono ?_
      rintro e w1 ⟨rfl, b1⟩
      have HB1 := Lib.hid b1
      clear b1 hW1 p0 p1 p2 p3 p4 p5 p6 p7 p8
      obtain ⟨p0, p1, p2, p3, p4, p5, p6, p7, p8⟩ := blk9 (HX.out w1 HB1.out)
      go_wp2_with fail
      clear p0 p1 p2 p3 p4 p5 p6 p7 p8
      have MK1 := Lib.hid (show ∀ W, Below w1.heap.size w1 W → (fun W => (W.cell? ⟨w.heap.size, 0, none⟩ = some (.int .i64 x.k) ∧ W.cell? ⟨w.heap.size, 1, none⟩ = some (.slice AK nK cK) ∧ W.cell? ⟨w.heap.size, 2, none⟩ = some (.int .i64 x.pd) ∧ W.cell? ⟨w.heap.size, 3, none⟩ = some (.bool x.ns) ∧ W.cell? ⟨w.heap.size, 4, none⟩ = some (.int .i64 x.f) ∧ W.cell? ⟨w.heap.size, 5, none⟩ = some (.int .i64 x.t) ∧ W.cell? ⟨w.heap.size, 6, none⟩ = some (.slice AL nL cL) ∧ W.cell? ⟨w.heap.size, 7, none⟩ = some (.slice AC nC cC) ∧ W.cell? ⟨w.heap.size, 8, none⟩ = some (.slice AR nR cR)) ∧ Below w1.heap.size w1 W) W from fun W hb => ⟨blk9 (HX.out W (to_ HB1.out hb)), hb⟩)
      refine wp_region_noPanic ?_
      refine wp_region_held_drew (S := fun W => (W.cell? ⟨w.heap.size, 0, none⟩ = some (.int .i64 x.k) ∧ W.cell? ⟨w.heap.size, 1, none⟩ = some (.slice AK nK cK) ∧ W.cell? ⟨w.heap.size, 2, none⟩ = some (.int .i64 x.pd) ∧ W.cell? ⟨w.heap.size, 3, none⟩ = some (.bool x.ns) ∧ W.cell? ⟨w.heap.size, 4, none⟩ = some (.int .i64 x.f) ∧ W.cell? ⟨w.heap.size, 5, none⟩ = some (.int .i64 x.t) ∧ W.cell? ⟨w.heap.size, 6, none⟩ = some (.slice AL nL cL) ∧ W.cell? ⟨w.heap.size, 7, none⟩ = some (.slice AC nC cC) ∧ W.cell? ⟨w.heap.size, 8, none⟩ = some (.slice AR nR cR)) ∧ Below w1.heap.size w1 W) (by kernel_rfl) (MK1.out _ (Below.refl _ _).drew) (fun hHeld => ?_)
      refine wpAnyH_take (i := 0) rfl (by kernel_rfl) (by kernel_rfl) (by kernel_rfl) (fun _ _ _ h => h) (Or.inl ⟨by rfl, by intro W hSW; (try dsimp only at hSW); go_simp; try (with_reducible rfl)⟩) hHeld ?_
      try simp only [Act.put, List.getElem_toArray, List.getElem_cons_zero, List.getElem_cons_succ, List.setIfInBounds_toArray, List.set_cons_zero, List.set_cons_succ]
      refine wpAnyH_take (i := 3) rfl (by kernel_rfl) (by kernel_rfl) (by kernel_rfl) (fun _ _ _ h => h) (Or.inl ⟨by rfl, by intro W hSW; (try dsimp only at hSW); go_simp; try (with_reducible rfl)⟩) hHeld ?_
      try simp only [Act.put, List.getElem_toArray, List.getElem_cons_zero, List.getElem_cons_succ, List.setIfInBounds_toArray, List.set_cons_zero, List.set_cons_succ]
      refine wpAnyH_ready (rs := [1]) (by kernel_rfl) (by simp) ?_
      refine AllReadyH.cons rfl (fun K hK => ?_) AllReadyH.nil
      go_simp
      refine (HPT.out _ (to_ HB1.out hHeld.2)).mono ?_
      rintro e w6 ⟨v1, rfl, hs6, qb⟩
      have q6 := to_ hHeld.2 qb
      try go_wp2_with fail
      refine hK.out _ _ (MK1.out _ q6) ?_
      clear hK K hHeld
      intro hHeld
      try simp only [Act.put, List.getElem_toArray, List.getElem_cons_zero, List.getElem_cons_succ, List.setIfInBounds_toArray, List.set_cons_zero, List.set_cons_succ]
      have HS6 := Lib.hid hs6
      have HB6 := Lib.hid q6
      clear hs6 q6 qb
      have MK2 := Lib.hid (show ∀ w', Below w6.heap.size w6 w' → (fun W => (convert 35 9 v1).run Tryz.prog W = .ok (.string TT) W ∧ Below w6.heap.size w6 W) w' from fun w' hb => ⟨HT1.out _ _ ((HS6.out.below hb).more hb.size), hb⟩)
      refine Mem.wpAnyH_mono (fun W => (convert 35 9 v1).run Tryz.prog W = .ok (.string TT) W ∧ Below w6.heap.size w6 W) (fun w' h => MK1.out _ (to_ HB6.out h.2)) _ _ _ _ ?_
      clear hHeld
      have hHeld := MK2.out _ (Below.refl _ _)
      refine wpAnyH_take (i := 2) rfl (by kernel_rfl) (by kernel_rfl) (by kernel_rfl) (fun _ _ _ h => h) (Or.inl ⟨by rfl, by intro W hSW; (try dsimp only at hSW); go_simp; try (with_reducible rfl)⟩) hHeld ?_
      try simp only [Act.put, List.getElem_toArray, List.getElem_cons_zero, List.getElem_cons_succ, List.setIfInBounds_toArray, List.set_cons_zero, List.set_cons_succ]
      refine wpAnyH_ready (rs := [4]) (by kernel_rfl) (by simp) ?_
      refine AllReadyH.cons rfl (fun K hK => ?_) AllReadyH.nil
      go_simp
      have q7 := to_ HB6.out hHeld.2
      refine (HRP.out _ (to_ HB1.out q7)).mono ?_
      rintro e w7 ⟨v2, rfl, hs7, qb⟩
      try go_wp2_with fail
      refine hK.out _ _ (MK2.out _ (to_ hHeld.2 qb)) ?_
      clear hK K hHeld
      intro hHeld
      try simp only [Act.put, List.getElem_toArray, List.getElem_cons_zero, List.getElem_cons_succ, List.setIfInBounds_toArray, List.set_cons_zero, List.set_cons_succ]
      have hc7 := HT1.out _ _ hs7
      have b17 := to_ q7 qb
      clear hs7 qb q7
      refine wpAnyH_ready (rs := [5]) (by kernel_rfl) (by simp) ?_
      refine AllReadyH.cons rfl (fun K hK => ?_) AllReadyH.nil
      go_simp
      refine hK.out _ _ (hHeld) ?_
      clear hK K hHeld
      intro hHeld
      try simp only [Act.put, List.getElem_toArray, List.getElem_cons_zero, List.getElem_cons_succ, List.setIfInBounds_toArray, List.set_cons_zero, List.set_cons_succ]
      clear hc7
      refine wpAnyH_take (i := 6) rfl (by kernel_rfl) (by kernel_rfl) (by kernel_rfl) (fun _ _ _ h => h) (Or.inl ⟨by rfl, by intro W hSW; (try dsimp only at hSW); go_simp; try (with_reducible rfl)⟩) hHeld ?_
      try simp only [Act.put, List.getElem_toArray, List.getElem_cons_zero, List.getElem_cons_succ, List.setIfInBounds_toArray, List.set_cons_zero, List.set_cons_succ]
      refine wpAnyH_done (by kernel_rfl) ?_ _
      refine NoPanic.normal ?_
      have HB7 := Lib.hid (to_ HB1.out b17)
      clear hHeld MK1 MK2 HS6 HB6 HT1 HPT HRP b17
      go_wp2_with fail
      refine (HNW.out _ HB7.out).mono ?_
      rintro e w8 ⟨r, A, c, rfl, hg, hr, b8⟩
      have HG8 := Lib.hid hg
      have HR8 := Lib.hid hr
      have HB8 := Lib.hid (to_ HB7.out b8)
      have HZ8 := Lib.hid b8.size
      clear hr b8 hg
      go_wp2_with fail
      refine (HGT.out _ _ _ _ HR8.out (HTX.out _ HB8.out) (by have := HG8.out; have := HB7.out.size; have := H3.out; omega)).mono ?_
      rintro e w9 ⟨BK, dK, BL, dL, BC, dC, BR, dR, rfl, hx, hrd, hgr⟩
      have HB9 := Lib.hid (show Below W1.heap.size W1 w9 from HB8.out.grown hgr HB8.out.size (fun r e => by injection e with e; have := HG8.out; have := HB7.out.size; omega))
      obtain ⟨w10, hw10⟩ : ∃ w10, w9.alloc (.cells #[.int .i64 g.k, .slice BK mK dK, .int .i64 g.pd, .bool g.ns, .int .i64 g.f, .int .i64 g.t, .slice BL mL dL, .slice BC mC dC, .slice BR mR dR] 27) = w10 := ⟨_, rfl⟩
      have b10 : Below w9.heap.size w9 w10 := by rw [← hw10]; exact alloc_ _ _
      have HB10 := Lib.hid (to_ HB9.out b10)
      have HF10 := Lib.hid (hx.on b10)
      have HK10 := Lib.hid (show Blk w10 w9.heap.size 27 #[.int .i64 g.k, .slice BK mK dK, .int .i64 g.pd, .bool g.ns, .int .i64 g.f, .int .i64 g.t, .slice BL mL dL, .slice BC mC dC, .slice BR mR dR] from by rw [← hw10]; exact Blk.new w9 _ _)
      have HR10 := Lib.hid (show Rdr w10 r A c bs gs.1 gs.2 from by
        rcases hrd with ⟨r', e1, e2, h9⟩ | ⟨e1, _⟩
        · injection e2 with e2
          subst e2
          exact Rdr.below (show Rdr w9 r A c bs gs.1 gs.2 from h9) b10 (Rdr.blk (show Rdr w9 r A c bs gs.1 gs.2 from h9)).lt
        · cases e1)
      clear hx hrd hgr b10 HG8 HR8 HB8 HB7 HNW HGT HZ8
      go_wp2_with fail
      clear hw10
      refine (HRG.out _ HB10.out).mono ?_
      rintro e w11 ⟨st, EK, fK, EL, fL, EC, fC, ER, fR, rfl, hy, hst, b11⟩
      obtain ⟨w12, hw12⟩ : ∃ w12, (w11.alloc (.cells #[.slice A2 n2 c2, .int .i64 (st.1 : Int), .bool (!st.2)] 42)).alloc (.cells #[.int .i64 g.k, .slice EK mK fK, .int .i64 g.pd, .bool g.ns, .int .i64 g.f, .int .i64 g.t, .slice EL mL fL, .slice EC mC fC, .slice ER mR fR] 27) = w12 := ⟨_, rfl⟩
      have b12 : Below w11.heap.size w11 w12 := by rw [← hw12]; exact to_ (alloc_ _ _) (alloc_ _ _)
      have b1012 := to_ b11 b12
      have HB12 := Lib.hid (to_ HB10.out b1012)
      have HF12 := Lib.hid (HF10.out.on b1012)
      have HK12 := Lib.hid (HK10.out.below b1012 HK10.out.lt)
      have HY12 := Lib.hid (hy.on b12)
      have HR12 := Lib.hid (Rdr.below HR10.out b1012 HR10.out.blk.lt)
      have HM12 := Lib.hid (show Blk w12 (w11.heap.size + 1) 27 #[.int .i64 g.k, .slice EK mK fK, .int .i64 g.pd, .bool g.ns, .int .i64 g.f, .int .i64 g.t, .slice EL mL fL, .slice EC mC fC, .slice ER mR fR] from by rw [← hw12]; exact Blk.at_ _ _ (by simp))
      have HQ12 := Lib.hid (show Blk w12 w11.heap.size 42 #[.slice A2 n2 c2, .int .i64 (st.1 : Int), .bool (!st.2)] from by rw [← hw12]; exact (Blk.new w11 _ _).alloc _)
      have HST := Lib.hid (show ge = 0 → st = gs from fun e => (hst e).trans (HZS.out e).symm)
      have MK8 := Lib.hid (show ∀ W, Below w12.heap.size w12 W → (fun W => ((W.cell? ⟨w9.heap.size, 0, none⟩ = some (.int .i64 g.k) ∧ W.cell? ⟨w9.heap.size, 1, none⟩ = some (.slice BK mK dK) ∧ W.cell? ⟨w9.heap.size, 2, none⟩ = some (.int .i64 g.pd) ∧ W.cell? ⟨w9.heap.size, 3, none⟩ = some (.bool g.ns) ∧ W.cell? ⟨w9.heap.size, 4, none⟩ = some (.int .i64 g.f) ∧ W.cell? ⟨w9.heap.size, 5, none⟩ = some (.int .i64 g.t) ∧ W.cell? ⟨w9.heap.size, 6, none⟩ = some (.slice BL mL dL) ∧ W.cell? ⟨w9.heap.size, 7, none⟩ = some (.slice BC mC dC) ∧ W.cell? ⟨w9.heap.size, 8, none⟩ = some (.slice BR mR dR)) ∧ (W.cell? ⟨w11.heap.size + 1, 0, none⟩ = some (.int .i64 g.k) ∧ W.cell? ⟨w11.heap.size + 1, 1, none⟩ = some (.slice EK mK fK) ∧ W.cell? ⟨w11.heap.size + 1, 2, none⟩ = some (.int .i64 g.pd) ∧ W.cell? ⟨w11.heap.size + 1, 3, none⟩ = some (.bool g.ns) ∧ W.cell? ⟨w11.heap.size + 1, 4, none⟩ = some (.int .i64 g.f) ∧ W.cell? ⟨w11.heap.size + 1, 5, none⟩ = some (.int .i64 g.t) ∧ W.cell? ⟨w11.heap.size + 1, 6, none⟩ = some (.slice EL mL fL) ∧ W.cell? ⟨w11.heap.size + 1, 7, none⟩ = some (.slice EC mC fC) ∧ W.cell? ⟨w11.heap.size + 1, 8, none⟩ = some (.slice ER mR fR)) ∧ W.cell? ⟨w11.heap.size, 1, none⟩ = some (.int .i64 (st.1 : Int))) ∧ Below w12.heap.size w12 W) W from fun W hb => ⟨⟨blk9 (HK12.out.below hb HK12.out.lt), blk9 (HM12.out.below hb HM12.out.lt), (hb.cell HQ12.out.lt).trans (HQ12.out.cell 1)⟩, hb⟩)
      clear hy hst b11 b12 b1012 HRG HB10 HF10 HK10 HR10 HZS
      by_cases hE : ge = 0
      · subst hE
        obtain rfl := HST.out rfl
        clear HST
        go_wp2_with fail
        clear hw12
        refine wp_region_noPanic ?_
        refine wp_region_held_drew (S := fun W => ((W.cell? ⟨w9.heap.size, 0, none⟩ = some (.int .i64 g.k) ∧ W.cell? ⟨w9.heap.size, 1, none⟩ = some (.slice BK mK dK) ∧ W.cell? ⟨w9.heap.size, 2, none⟩ = some (.int .i64 g.pd) ∧ W.cell? ⟨w9.heap.size, 3, none⟩ = some (.bool g.ns) ∧ W.cell? ⟨w9.heap.size, 4, none⟩ = some (.int .i64 g.f) ∧ W.cell? ⟨w9.heap.size, 5, none⟩ = some (.int .i64 g.t) ∧ W.cell? ⟨w9.heap.size, 6, none⟩ = some (.slice BL mL dL) ∧ W.cell? ⟨w9.heap.size, 7, none⟩ = some (.slice BC mC dC) ∧ W.cell? ⟨w9.heap.size, 8, none⟩ = some (.slice BR mR dR)) ∧ (W.cell? ⟨w11.heap.size + 1, 0, none⟩ = some (.int .i64 g.k) ∧ W.cell? ⟨w11.heap.size + 1, 1, none⟩ = some (.slice EK mK fK) ∧ W.cell? ⟨w11.heap.size + 1, 2, none⟩ = some (.int .i64 g.pd) ∧ W.cell? ⟨w11.heap.size + 1, 3, none⟩ = some (.bool g.ns) ∧ W.cell? ⟨w11.heap.size + 1, 4, none⟩ = some (.int .i64 g.f) ∧ W.cell? ⟨w11.heap.size + 1, 5, none⟩ = some (.int .i64 g.t) ∧ W.cell? ⟨w11.heap.size + 1, 6, none⟩ = some (.slice EL mL fL) ∧ W.cell? ⟨w11.heap.size + 1, 7, none⟩ = some (.slice EC mC fC) ∧ W.cell? ⟨w11.heap.size + 1, 8, none⟩ = some (.slice ER mR fR)) ∧ W.cell? ⟨w11.heap.size, 1, none⟩ = some (.int .i64 (st.1 : Int))) ∧ Below w12.heap.size w12 W) (by kernel_rfl) (MK8.out _ (Below.refl _ _).drew) (fun hHeld => ?_)
        refine wpAnyH_take (i := 0) rfl (by kernel_rfl) (by kernel_rfl) (by kernel_rfl) (fun _ _ _ h => h) (Or.inl ⟨by rfl, by intro W hSW; (try dsimp only at hSW); go_simp; try (with_reducible rfl)⟩) hHeld ?_
        try simp only [Act.put, List.getElem_toArray, List.getElem_cons_zero, List.getElem_cons_succ, List.setIfInBounds_toArray, List.set_cons_zero, List.set_cons_succ]
        refine wpAnyH_take (i := 1) rfl (by kernel_rfl) (by kernel_rfl) (by kernel_rfl) (fun _ _ _ h => h) (Or.inl ⟨by rfl, by intro W hSW; (try dsimp only at hSW); go_simp; try (with_reducible rfl)⟩) hHeld ?_
        try simp only [Act.put, List.getElem_toArray, List.getElem_cons_zero, List.getElem_cons_succ, List.setIfInBounds_toArray, List.set_cons_zero, List.set_cons_succ]
        refine wpAnyH_ready (rs := [2]) (by kernel_rfl) (by simp) ?_
        refine AllReadyH.cons rfl (fun K hK => ?_) AllReadyH.nil
        go_simp
        refine (sameF_same _ BK BL BC BR EK EL EC ER mK dK mL dL mC dC mR dR fK fL fC fR g (HF12.out.on hHeld.2) (HY12.out.on hHeld.2) HFE.out.1 HFE.out.2.1 HFE.out.2.2.1 HFE.out.2.2.2).mono ?_
        rintro e w13 ⟨rfl, b13⟩
        try go_wp2_with fail
        refine hK.out _ _ (MK8.out _ (to_ hHeld.2 b13)) ?_
        clear hK K hHeld
        intro hHeld
        try simp only [Act.put, List.getElem_toArray, List.getElem_cons_zero, List.getElem_cons_succ, List.setIfInBounds_toArray, List.set_cons_zero, List.set_cons_succ]
        clear b13
        refine wpAnyH_take (i := 3) rfl (by kernel_rfl) (by kernel_rfl) (by kernel_rfl) (fun _ _ _ h => h) (Or.inl ⟨by rfl, by intro W hSW; (try dsimp only at hSW); go_simp; try (with_reducible rfl)⟩) hHeld ?_
        try simp only [Act.put, List.getElem_toArray, List.getElem_cons_zero, List.getElem_cons_succ, List.setIfInBounds_toArray, List.set_cons_zero, List.set_cons_succ]
        refine wpAnyH_take (i := 4) rfl (by kernel_rfl) (by kernel_rfl) (by kernel_rfl) (fun _ _ _ h => h) (Or.inl ⟨by rfl, by intro W hSW; (try dsimp only at hSW); go_simp; try (with_reducible rfl)⟩) hHeld ?_
        try simp only [Act.put, List.getElem_toArray, List.getElem_cons_zero, List.getElem_cons_succ, List.setIfInBounds_toArray, List.set_cons_zero, List.set_cons_succ]
        refine wpAnyH_take (i := 5) rfl (by kernel_rfl) (by kernel_rfl) (by kernel_rfl) (fun _ _ _ h => h) (Or.inl ⟨by rfl, by intro W hSW; (try dsimp only at hSW); go_simp; try (with_reducible rfl)⟩) hHeld ?_
        try simp only [Act.put, List.getElem_toArray, List.getElem_cons_zero, List.getElem_cons_succ, List.setIfInBounds_toArray, List.set_cons_zero, List.set_cons_succ]
        refine wpAnyH_take (i := 6) rfl (by kernel_rfl) (by kernel_rfl) (by kernel_rfl) (fun _ _ _ h => h) (Or.inl ⟨by rfl, by intro W hSW; (try dsimp only at hSW); go_simp; try (with_reducible rfl)⟩) hHeld ?_
        try simp only [Act.put, List.getElem_toArray, List.getElem_cons_zero, List.getElem_cons_succ, List.setIfInBounds_toArray, List.set_cons_zero, List.set_cons_succ]
        refine wpAnyH_take (i := 7) rfl (by kernel_rfl) (by kernel_rfl) (by kernel_rfl) (fun _ _ _ h => h) (Or.inl ⟨by rfl, by intro W hSW; (try dsimp only at hSW); go_simp; try (with_reducible rfl)⟩) hHeld ?_
        try simp only [Act.put, List.getElem_toArray, List.getElem_cons_zero, List.getElem_cons_succ, List.setIfInBounds_toArray, List.set_cons_zero, List.set_cons_succ]
        refine wpAnyH_take (i := 8) rfl (by kernel_rfl) (by kernel_rfl) (by kernel_rfl) (fun _ _ _ h => h) (Or.inl ⟨by rfl, by intro W hSW; (try dsimp only at hSW); go_simp; try (with_reducible rfl)⟩) hHeld ?_
        try simp only [Act.put, List.getElem_toArray, List.getElem_cons_zero, List.getElem_cons_succ, List.setIfInBounds_toArray, List.set_cons_zero, List.set_cons_succ]
        refine wpAnyH_take (i := 9) rfl (by kernel_rfl) (by kernel_rfl) (by kernel_rfl) (fun _ _ _ h => h) (Or.inl ⟨by rfl, by intro W hSW; (try dsimp only at hSW); go_simp; try (with_reducible rfl)⟩) hHeld ?_
        try simp only [Act.put, List.getElem_toArray, List.getElem_cons_zero, List.getElem_cons_succ, List.setIfInBounds_toArray, List.set_cons_zero, List.set_cons_succ]
        refine wpAnyH_take (i := 10) rfl (by kernel_rfl) (by kernel_rfl) (by kernel_rfl) (fun _ _ _ h => h) (Or.inl ⟨by rfl, by intro W hSW; (try dsimp only at hSW); go_simp; try (with_reducible rfl)⟩) hHeld ?_
        try simp only [Act.put, List.getElem_toArray, List.getElem_cons_zero, List.getElem_cons_succ, List.setIfInBounds_toArray, List.set_cons_zero, List.set_cons_succ]
        refine wpAnyH_take (i := 11) rfl (by kernel_rfl) (by kernel_rfl) (by kernel_rfl) (fun _ _ _ h => h) (Or.inl ⟨by rfl, by intro W hSW; (try dsimp only at hSW); go_simp; try (with_reducible rfl)⟩) hHeld ?_
        try simp only [Act.put, List.getElem_toArray, List.getElem_cons_zero, List.getElem_cons_succ, List.setIfInBounds_toArray, List.set_cons_zero, List.set_cons_succ]
        refine wpAnyH_take (i := 12) rfl (by kernel_rfl) (by kernel_rfl) (by kernel_rfl) (fun _ _ _ h => h) (Or.inl ⟨by rfl, by intro W hSW; (try dsimp only at hSW); go_simp; try (with_reducible rfl)⟩) hHeld ?_
        try simp only [Act.put, List.getElem_toArray, List.getElem_cons_zero, List.getElem_cons_succ, List.setIfInBounds_toArray, List.set_cons_zero, List.set_cons_succ]
        refine wpAnyH_take (i := 13) rfl (by kernel_rfl) (by kernel_rfl) (by kernel_rfl) (fun _ _ _ h => h) (Or.inl ⟨by rfl, by intro W hSW; (try dsimp only at hSW); go_simp; try (with_reducible rfl)⟩) hHeld ?_
        try simp only [Act.put, List.getElem_toArray, List.getElem_cons_zero, List.getElem_cons_succ, List.setIfInBounds_toArray, List.set_cons_zero, List.set_cons_succ]
        refine wpAnyH_take (i := 15) rfl (by kernel_rfl) (by kernel_rfl) (by kernel_rfl) (fun _ _ _ h => h) (Or.inl ⟨by rfl, by intro W hSW; (try dsimp only at hSW); go_simp; try (with_reducible rfl)⟩) hHeld ?_
        try simp only [Act.put, List.getElem_toArray, List.getElem_cons_zero, List.getElem_cons_succ, List.setIfInBounds_toArray, List.set_cons_zero, List.set_cons_succ]
        refine wpAnyH_take (i := 16) rfl (by kernel_rfl) (by kernel_rfl) (by kernel_rfl) (fun _ _ _ h => h) (Or.inl ⟨by rfl, by intro W hSW; (try dsimp only at hSW); go_simp; try (with_reducible rfl)⟩) hHeld ?_
        try simp only [Act.put, List.getElem_toArray, List.getElem_cons_zero, List.getElem_cons_succ, List.setIfInBounds_toArray, List.set_cons_zero, List.set_cons_succ]
        refine wpAnyH_ready (rs := [14]) (by kernel_rfl) (by simp) ?_
        refine AllReadyH.cons rfl (fun K hK => ?_) AllReadyH.nil
        go_simp
        refine (at_any _ r A c bs st.1 st.2 (Rdr.below HR12.out hHeld.2 HR12.out.blk.lt)).mono ?_
        rintro e w14 ⟨rfl, rfl⟩
        try go_wp2_with fail
        refine hK.out _ _ (hHeld) ?_
        clear hK K hHeld
        intro hHeld
        try simp only [Act.put, List.getElem_toArray, List.getElem_cons_zero, List.getElem_cons_succ, List.setIfInBounds_toArray, List.set_cons_zero, List.set_cons_succ]
        refine wpAnyH_take (i := 17) rfl (by kernel_rfl) (by kernel_rfl) (by kernel_rfl) (fun _ _ _ h => h) (Or.inl ⟨by rfl, by intro W hSW; (try dsimp only at hSW); go_simp; try (with_reducible rfl)⟩) hHeld ?_
        try simp only [Act.put, List.getElem_toArray, List.getElem_cons_zero, List.getElem_cons_succ, List.setIfInBounds_toArray, List.set_cons_zero, List.set_cons_succ]
        refine wpAnyH_take (i := 18) rfl (by kernel_rfl) (by kernel_rfl) (by kernel_rfl) (fun _ _ _ h => h) (Or.inl ⟨by rfl, by intro W hSW; (try dsimp only at hSW); go_simp; try (with_reducible rfl)⟩) hHeld ?_
        try simp only [Act.put, List.getElem_toArray, List.getElem_cons_zero, List.getElem_cons_succ, List.setIfInBounds_toArray, List.set_cons_zero, List.set_cons_succ]
        refine wpAnyH_take (i := 19) rfl (by kernel_rfl) (by kernel_rfl) (by kernel_rfl) (fun _ _ _ h => h) (Or.inl ⟨by rfl, by intro W hSW; (try dsimp only at hSW); go_simp; try (with_reducible rfl)⟩) hHeld ?_
        try simp only [Act.put, List.getElem_toArray, List.getElem_cons_zero, List.getElem_cons_succ, List.setIfInBounds_toArray, List.set_cons_zero, List.set_cons_succ]
        refine wpAnyH_done (by kernel_rfl) ?_ _
        refine NoPanic.normal ?_
        have HB13 := Lib.hid (to_ HB12.out hHeld.2)
        clear hHeld HB12 MK8 HF12 HK12 HY12 HR12 HM12 HQ12
        go_wp2_with fail
        refine (getF_any _ none none none 0 [] (0, false) (.inr ⟨rfl, rfl, rfl, rfl⟩) (HTX.out _ HB13.out).1 (fun y e => by cases e) (by have := HB13.out.size; have := H3.out; omega)).mono ?_
        rintro e w15 ⟨BK, dK, BL, dL, BC, dC, BR, dR, h71, _, _, h74⟩
        have h71' : e = .returned (.tuple #[.agg #[.int .i64 0, .slice BK 0 dK, .int .i64 0, .bool false, .int .i64 0, .int .i64 0, .slice BL 0 dL, .slice BC 0 dC, .slice BR 0 dR], .int .i64 5]) := by
          rw [ge_none.1, ge_none.2] at h71
          exact h71
        clear h71
        subst h71'
        have HB15 := Lib.hid (show Below W1.heap.size W1 w15 from HB13.out.grown h74 HB13.out.size (fun r e => by cases e))
        clear h74
        have HB16 := Lib.hid (to_ HB15.out (alloc_ w15 (.cells #[.int .i64 0, .slice BK 0 dK, .int .i64 0, .bool false, .int .i64 0, .int .i64 0, .slice BL 0 dL, .slice BC 0 dC, .slice BR 0 dR] 27)))
        clear HB13
        go_wp2_with fail
        refine (HKN.out _ HB16.out).mono ?_
        rintro e w16 ⟨rfl, b16⟩
        have HB17 := Lib.hid (to_ HB0.out (to_ HB16.out b16))
        clear b16
        go_wp2_with fail
        go_ret
        exact ⟨rfl, HB17.out⟩
      · clear HST
        go_wp2_with fail
        clear hw12
        refine wp_region_noPanic ?_
        refine wp_region_held_drew (S := fun W => ((W.cell? ⟨w9.heap.size, 0, none⟩ = some (.int .i64 g.k) ∧ W.cell? ⟨w9.heap.size, 1, none⟩ = some (.slice BK mK dK) ∧ W.cell? ⟨w9.heap.size, 2, none⟩ = some (.int .i64 g.pd) ∧ W.cell? ⟨w9.heap.size, 3, none⟩ = some (.bool g.ns) ∧ W.cell? ⟨w9.heap.size, 4, none⟩ = some (.int .i64 g.f) ∧ W.cell? ⟨w9.heap.size, 5, none⟩ = some (.int .i64 g.t) ∧ W.cell? ⟨w9.heap.size, 6, none⟩ = some (.slice BL mL dL) ∧ W.cell? ⟨w9.heap.size, 7, none⟩ = some (.slice BC mC dC) ∧ W.cell? ⟨w9.heap.size, 8, none⟩ = some (.slice BR mR dR)) ∧ (W.cell? ⟨w11.heap.size + 1, 0, none⟩ = some (.int .i64 g.k) ∧ W.cell? ⟨w11.heap.size + 1, 1, none⟩ = some (.slice EK mK fK) ∧ W.cell? ⟨w11.heap.size + 1, 2, none⟩ = some (.int .i64 g.pd) ∧ W.cell? ⟨w11.heap.size + 1, 3, none⟩ = some (.bool g.ns) ∧ W.cell? ⟨w11.heap.size + 1, 4, none⟩ = some (.int .i64 g.f) ∧ W.cell? ⟨w11.heap.size + 1, 5, none⟩ = some (.int .i64 g.t) ∧ W.cell? ⟨w11.heap.size + 1, 6, none⟩ = some (.slice EL mL fL) ∧ W.cell? ⟨w11.heap.size + 1, 7, none⟩ = some (.slice EC mC fC) ∧ W.cell? ⟨w11.heap.size + 1, 8, none⟩ = some (.slice ER mR fR)) ∧ W.cell? ⟨w11.heap.size, 1, none⟩ = some (.int .i64 (st.1 : Int))) ∧ Below w12.heap.size w12 W) (by kernel_rfl) (MK8.out _ (Below.refl _ _).drew) (fun hHeld => ?_)
        refine wpAnyH_take (i := 0) rfl (by kernel_rfl) (by kernel_rfl) (by kernel_rfl) (fun _ _ _ h => h) (Or.inl ⟨by rfl, by intro W hSW; (try dsimp only at hSW); go_simp; try (with_reducible rfl)⟩) hHeld ?_
        try simp only [Act.put, List.getElem_toArray, List.getElem_cons_zero, List.getElem_cons_succ, List.setIfInBounds_toArray, List.set_cons_zero, List.set_cons_succ]
        refine wpAnyH_take (i := 1) rfl (by kernel_rfl) (by kernel_rfl) (by kernel_rfl) (fun _ _ _ h => h) (Or.inl ⟨by rfl, by intro W hSW; (try dsimp only at hSW); go_simp; try (with_reducible rfl)⟩) hHeld ?_
        try simp only [Act.put, List.getElem_toArray, List.getElem_cons_zero, List.getElem_cons_succ, List.setIfInBounds_toArray, List.set_cons_zero, List.set_cons_succ]
        refine wpAnyH_ready (rs := [2]) (by kernel_rfl) (by simp) ?_
        refine AllReadyH.cons rfl (fun K hK => ?_) AllReadyH.nil
        go_simp
        refine (sameF_same _ BK BL BC BR EK EL EC ER mK dK mL dL mC dC mR dR fK fL fC fR g (HF12.out.on hHeld.2) (HY12.out.on hHeld.2) HFE.out.1 HFE.out.2.1 HFE.out.2.2.1 HFE.out.2.2.2).mono ?_
        rintro e w13 ⟨rfl, b13⟩
        try go_wp2_with fail
        refine hK.out _ _ (MK8.out _ (to_ hHeld.2 b13)) ?_
        clear hK K hHeld
        intro hHeld
        try simp only [Act.put, List.getElem_toArray, List.getElem_cons_zero, List.getElem_cons_succ, List.setIfInBounds_toArray, List.set_cons_zero, List.set_cons_succ]
        clear b13
        refine wpAnyH_take (i := 3) rfl (by kernel_rfl) (by kernel_rfl) (by kernel_rfl) (fun _ _ _ h => h) (Or.inl ⟨by rfl, by intro W hSW; (try dsimp only at hSW); go_simp; try (with_reducible rfl)⟩) hHeld ?_
        try simp only [Act.put, List.getElem_toArray, List.getElem_cons_zero, List.getElem_cons_succ, List.setIfInBounds_toArray, List.set_cons_zero, List.set_cons_succ]
        refine wpAnyH_take (i := 4) rfl (by kernel_rfl) (by kernel_rfl) (by kernel_rfl) (fun _ _ _ h => h) (Or.inl ⟨by rfl, by intro W hSW; (try dsimp only at hSW); go_simp; try (with_reducible rfl)⟩) hHeld ?_
        try simp only [Act.put, List.getElem_toArray, List.getElem_cons_zero, List.getElem_cons_succ, List.setIfInBounds_toArray, List.set_cons_zero, List.set_cons_succ]
        refine wpAnyH_take (i := 5) rfl (by kernel_rfl) (by kernel_rfl) (by kernel_rfl) (fun _ _ _ h => h) (Or.inl ⟨by rfl, by intro W hSW; (try dsimp only at hSW); go_simp; try (with_reducible rfl)⟩) hHeld ?_
        try simp only [Act.put, List.getElem_toArray, List.getElem_cons_zero, List.getElem_cons_succ, List.setIfInBounds_toArray, List.set_cons_zero, List.set_cons_succ]
        refine wpAnyH_take (i := 6) rfl (by kernel_rfl) (by kernel_rfl) (by kernel_rfl) (fun _ _ _ h => h) (Or.inl ⟨by rfl, by intro W hSW; (try dsimp only at hSW); go_simp; try (with_reducible rfl)⟩) hHeld ?_
        try simp only [Act.put, List.getElem_toArray, List.getElem_cons_zero, List.getElem_cons_succ, List.setIfInBounds_toArray, List.set_cons_zero, List.set_cons_succ]
        refine wpAnyH_take (i := 7) rfl (by kernel_rfl) (by kernel_rfl) (by kernel_rfl) (fun _ _ _ h => h) (Or.inl ⟨by rfl, by intro W hSW; (try dsimp only at hSW); go_simp; try (with_reducible rfl)⟩) hHeld ?_
        try simp only [Act.put, List.getElem_toArray, List.getElem_cons_zero, List.getElem_cons_succ, List.setIfInBounds_toArray, List.set_cons_zero, List.set_cons_succ]
        refine wpAnyH_take (i := 8) rfl (by kernel_rfl) (by kernel_rfl) (by kernel_rfl) (fun _ _ _ h => h) (Or.inl ⟨by rfl, by intro W hSW; (try dsimp only at hSW); go_simp; try (with_reducible rfl)⟩) hHeld ?_
        try simp only [Act.put, List.getElem_toArray, List.getElem_cons_zero, List.getElem_cons_succ, List.setIfInBounds_toArray, List.set_cons_zero, List.set_cons_succ]
        refine wpAnyH_take (i := 9) rfl (by kernel_rfl) (by kernel_rfl) (by kernel_rfl) (fun _ _ _ h => h) (Or.inl ⟨by rfl, by intro W hSW; (try dsimp only at hSW); go_simp; try (with_reducible rfl)⟩) hHeld ?_
        try simp only [Act.put, List.getElem_toArray, List.getElem_cons_zero, List.getElem_cons_succ, List.setIfInBounds_toArray, List.set_cons_zero, List.set_cons_succ]
        refine wpAnyH_take (i := 10) rfl (by kernel_rfl) (by kernel_rfl) (by kernel_rfl) (fun _ _ _ h => h) (Or.inl ⟨by rfl, by intro W hSW; (try dsimp only at hSW); go_simp; try (with_reducible rfl)⟩) hHeld ?_
        try simp only [Act.put, List.getElem_toArray, List.getElem_cons_zero, List.getElem_cons_succ, List.setIfInBounds_toArray, List.set_cons_zero, List.set_cons_succ]
        refine wpAnyH_take (i := 11) rfl (by kernel_rfl) (by kernel_rfl) (by kernel_rfl) (fun _ _ _ h => h) (Or.inl ⟨by rfl, by intro W hSW; (try dsimp only at hSW); go_simp; try (with_reducible rfl)⟩) hHeld ?_
        try simp only [Act.put, List.getElem_toArray, List.getElem_cons_zero, List.getElem_cons_succ, List.setIfInBounds_toArray, List.set_cons_zero, List.set_cons_succ]
        rw [show (ge == 0) = false from by simpa using hE]
        refine wpAnyH_take (i := 12) rfl (by kernel_rfl) (by kernel_rfl) (by kernel_rfl) (fun _ _ _ h => h) (Or.inl ⟨by rfl, by intro W hSW; (try dsimp only at hSW); go_simp; try (with_reducible rfl)⟩) hHeld ?_
        try simp only [Act.put, List.getElem_toArray, List.getElem_cons_zero, List.getElem_cons_succ, List.setIfInBounds_toArray, List.set_cons_zero, List.set_cons_succ]
        refine wpAnyH_take (i := 13) rfl (by kernel_rfl) (by kernel_rfl) (by kernel_rfl) (fun _ _ _ h => h) (Or.inr ⟨by rfl, rfl⟩) hHeld ?_
        try simp only [Act.put, List.getElem_toArray, List.getElem_cons_zero, List.getElem_cons_succ, List.setIfInBounds_toArray, List.set_cons_zero, List.set_cons_succ]
        refine wpAnyH_take (i := 14) rfl (by kernel_rfl) (by kernel_rfl) (by kernel_rfl) (fun _ _ _ h => h) (Or.inr ⟨by rfl, rfl⟩) hHeld ?_
        try simp only [Act.put, List.getElem_toArray, List.getElem_cons_zero, List.getElem_cons_succ, List.setIfInBounds_toArray, List.set_cons_zero, List.set_cons_succ]
        refine wpAnyH_take (i := 15) rfl (by kernel_rfl) (by kernel_rfl) (by kernel_rfl) (fun _ _ _ h => h) (Or.inr ⟨by rfl, rfl⟩) hHeld ?_
        try simp only [Act.put, List.getElem_toArray, List.getElem_cons_zero, List.getElem_cons_succ, List.setIfInBounds_toArray, List.set_cons_zero, List.set_cons_succ]
        refine wpAnyH_take (i := 16) rfl (by kernel_rfl) (by kernel_rfl) (by kernel_rfl) (fun _ _ _ h => h) (Or.inr ⟨by rfl, rfl⟩) hHeld ?_
        try simp only [Act.put, List.getElem_toArray, List.getElem_cons_zero, List.getElem_cons_succ, List.setIfInBounds_toArray, List.set_cons_zero, List.set_cons_succ]
        refine wpAnyH_take (i := 17) rfl (by kernel_rfl) (by kernel_rfl) (by kernel_rfl) (fun _ _ _ h => h) (Or.inr ⟨by rfl, rfl⟩) hHeld ?_
        try simp only [Act.put, List.getElem_toArray, List.getElem_cons_zero, List.getElem_cons_succ, List.setIfInBounds_toArray, List.set_cons_zero, List.set_cons_succ]
        refine wpAnyH_take (i := 18) rfl (by kernel_rfl) (by kernel_rfl) (by kernel_rfl) (fun _ _ _ h => h) (Or.inl ⟨by rfl, by intro W hSW; (try dsimp only at hSW); go_simp; try (with_reducible rfl)⟩) hHeld ?_
        try simp only [Act.put, List.getElem_toArray, List.getElem_cons_zero, List.getElem_cons_succ, List.setIfInBounds_toArray, List.set_cons_zero, List.set_cons_succ]
        refine wpAnyH_take (i := 19) rfl (by kernel_rfl) (by kernel_rfl) (by kernel_rfl) (fun _ _ _ h => h) (Or.inl ⟨by rfl, by intro W hSW; (try dsimp only at hSW); go_simp; try (with_reducible rfl)⟩) hHeld ?_
        try simp only [Act.put, List.getElem_toArray, List.getElem_cons_zero, List.getElem_cons_succ, List.setIfInBounds_toArray, List.set_cons_zero, List.set_cons_succ]
        refine wpAnyH_done (by kernel_rfl) ?_ _
        refine NoPanic.normal ?_
        have HB13 := Lib.hid (to_ HB12.out hHeld.2)
        clear hHeld HB12 MK8 HF12 HK12 HY12 HR12 HM12 HQ12
        go_wp2_with fail
        refine (getF_any _ none none none 0 [] (0, false) (.inr ⟨rfl, rfl, rfl, rfl⟩) (HTX.out _ HB13.out).1 (fun y e => by cases e) (by have := HB13.out.size; have := H3.out; omega)).mono ?_
        rintro e w15 ⟨BK, dK, BL, dL, BC, dC, BR, dR, h71, _, _, h74⟩
        have h71' : e = .returned (.tuple #[.agg #[.int .i64 0, .slice BK 0 dK, .int .i64 0, .bool false, .int .i64 0, .int .i64 0, .slice BL 0 dL, .slice BC 0 dC, .slice BR 0 dR], .int .i64 5]) := by
          rw [ge_none.1, ge_none.2] at h71
          exact h71
        clear h71
        subst h71'
        have HB15 := Lib.hid (show Below W1.heap.size W1 w15 from HB13.out.grown h74 HB13.out.size (fun r e => by cases e))
        clear h74
        have HB16 := Lib.hid (to_ HB15.out (alloc_ w15 (.cells #[.int .i64 0, .slice BK 0 dK, .int .i64 0, .bool false, .int .i64 0, .int .i64 0, .slice BL 0 dL, .slice BC 0 dC, .slice BR 0 dR] 27)))
        clear HB13
        go_wp2_with fail
        refine (HKN.out _ HB16.out).mono ?_
        rintro e w16 ⟨rfl, b16⟩
        have HB17 := Lib.hid (to_ HB0.out (to_ HB16.out b16))
        clear b16
        go_wp2_with fail
        go_ret
        exact ⟨rfl, HB17.out⟩
end Go.Proofs.YtbknmapkdjmcjaaGreatDoor.By
