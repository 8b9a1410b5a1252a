/-
  RUNSOCTETS: a table's bytes, and the next table of any bytes, are what the document says.
-/
import Derived.Test.YtckpbdphilifoaaWx
import Derived.Test.YtckpbdphilifoaaWn
import Derived.Test.YtckpbdphilifoaaTx
import Derived.Test.YtckpbdphilifoaaHm
import Derived.Lib.SlBytesConst
namespace Go.Proofs.Ytckpbdphilifoaa.By
open Go.RowKit
open Mem Gm Rf
set_option linter.unusedSimpArgs false

theorem text_of {w : World} {B : Nat} {v : Value} {l : List UInt8} (h : SlV w B v (u8s l)) : (convert 37 9 v).run Try.prog w = .ok (.string ⟨l.toArray⟩) w := by
  generalize hu : u8s l = us at h
  cases h with
  | nil =>
    obtain rfl : l = [] := by simpa [u8s] using hu
    exact run_convert_bytes_nil w 37 5 Try.underlying37 Try.underlying5 0 0 9 Try.underlying9
  | at_ ad cap _ hc hm h =>
    subst hu
    rw [u8s_length]
    exact run_convert_bytes_back w 37 9 5 ad cap l Try.underlying37 Try.underlying5 Try.underlying9 fun j hj => (h j _ (by simp [u8s, hj])).2

set_option maxRecDepth 100000 in
set_option maxHeartbeats 8000000 in
theorem runsOctets_any (w : World) (A1 A2 : Option Addr) (n1 c1 n2 c2 : Nat) (l : List Rn) (bs : List UInt8) (h : RnL w A1 n1 c1 l) (hm : bs.length = n2) (hb : SlV w w.heap.size (.slice A2 n2 c2) (u8s bs)) :
    Calls Try.prog 5 #[.slice A1 n1 c1, .slice A2 n2 c2] w (TAns w) := by
  by_cases h1 : 300 < n1
  · have e0 : (300 : Int) < (n1 : Int) := by omega
    clear h1 h hb hm
    go_enter Try.func5, Try.ntmps5
    go_wp2_with fail
    refine (known13_any _).mono ?_
    rintro e w9 ⟨rfl, b9⟩
    have HB99 := Lib.hid (b9)
    clear b9
    go_wp2_with fail
    go_ret
    exact ⟨rfl, HB99.out⟩
  · have e0 : ¬ (300 : Int) < (n1 : Int) := by omega
    by_cases h2 : 1000 < n2
    · have e2 : (1000 : Int) < (n2 : Int) := by omega
      clear h1 h2 h hb hm
      go_enter Try.func5, Try.ntmps5
      go_wp2_with fail
      refine (known13_any _).mono ?_
      rintro e w9 ⟨rfl, b9⟩
      have HB99 := Lib.hid (b9)
      clear b9
      go_wp2_with fail
      go_ret
      exact ⟨rfl, HB99.out⟩
    · have e2 : ¬ (1000 : Int) < (n2 : Int) := by omega
      have HT1 := Lib.hid (show ∀ W B v, SlV W B v (u8s (bs ++ tabB l n1)) → (convert 37 9 v).run Try.prog W = .ok (.string ⟨(bs ++ tabB l n1).toArray⟩) W from fun _ _ _ h => text_of h)
      have HPT := Lib.hid (show ∀ W, Below w.heap.size w W → Calls Try.prog 19 #[.slice A2 n2 c2, .slice A1 n1 c1] W fun e w' => ∃ v', e = .returned v' ∧ SlV w' w'.heap.size v' (u8s (bs ++ tabB l n1)) ∧ Below W.heap.size W w' from fun W hW => (putRuns_any W A1 A2 n1 c1 n2 c2 l bs (h.on hW) (by omega) hm ((hb.below hW).more hW.size) (by omega)).mono fun e w' ho => by
        obtain ⟨v', e1, h2, h3⟩ := ho
        rw [← u8s_append] at h2
        exact ⟨v', e1, SlV.of_own h2, h3⟩)
      have HRP := Lib.hid (show ∀ W, Below w.heap.size w W → Calls Try.prog 20 #[.slice A2 n2 c2, .slice A1 n1 c1] W fun e w' => ∃ v', e = .returned v' ∧ SlV w' w'.heap.size v' (u8s (bs ++ tabB l n1)) ∧ Below W.heap.size W w' from fun W hW => (rputRuns_any W A1 A2 n1 c1 n2 c2 l bs (h.on hW) (by omega) hm ((hb.below hW).more hW.size) (by omega)).mono fun e w' ho => by
        obtain ⟨v', e1, h2, h3⟩ := ho
        rw [← u8s_append] at h2
        exact ⟨v', e1, SlV.of_own h2, h3⟩)
      obtain ⟨TT, hTT⟩ : ∃ T : ByteArray, ⟨(bs ++ tabB l n1).toArray⟩ = T := ⟨_, rfl⟩
      rw [hTT] at HT1
      generalize bs ++ tabB l n1 = TL at HT1 HPT HRP
      have HNW := Lib.hid (show ∀ W, Below w.heap.size w W → Calls Try.prog 21 #[.slice A2 n2 c2] W (Made W bs) from fun W hW => new_any _ bs W W.heap.size ((hb.below hW).more hW.size) (by omega))
      obtain ⟨R, hR⟩ : ∃ R, gets bs (rvS bs (0, true) 2).toNat (pgS bs (0, true) 2) = R := ⟨_, rfl⟩
      have HGT := Lib.hid (show ∀ W g A c, RdS W g A c bs (0, true) → Calls Try.prog 22 #[.pointer (some ⟨g, 0, none⟩)] W (GtAns R W g A c bs) from fun W g A c hr => by rw [← hR]; exact getRuns_any W g A c bs (0, true) hr)
      have HRG := Lib.hid (show ∀ W, Below w.heap.size w W → Calls Try.prog 23 #[.agg #[.slice A2 n2 c2, .int .i64 0, .bool false]] W (RgAns R W A2 n2 c2) from fun W hW => by
        rw [← hR]
        exact rgetRuns_any W A2 n2 c2 bs (0, true) hm (by omega) (by simp) ((hb.below hW).more hW.size))
      obtain ⟨X, E, S⟩ := R
      unfold GtAns at HGT
      unfold RgAns rdC at HRG
      dsimp only at HGT HRG
      clear h1 h2 h hb hm hTT hR
      go_enter Try.func5, Try.ntmps5
      go_wp2_with fail
      refine wp_region_noPanic ?_
      refine wp_region_held_drew (S := fun W => Below w.heap.size w W) (by kernel_rfl) ((Below.refl _ _).drew) (fun hHeld => ?_)
      refine wpAnyH_take (i := 0) rfl (by kernel_rfl) (by kernel_rfl) (by kernel_rfl) (fun _ _ _ h => h) (Or.inl ⟨by rfl, by intro W hSW; (try dsimp only at hSW); go_simp; try (with_reducible rfl)⟩) hHeld ?_
      try simp only [Act.put, List.getElem_toArray, List.getElem_cons_zero, List.getElem_cons_succ, List.setIfInBounds_toArray, List.set_cons_zero, List.set_cons_succ]
      refine wpAnyH_take (i := 1) rfl (by kernel_rfl) (by kernel_rfl) (by kernel_rfl) (fun _ _ _ h => h) (Or.inl ⟨by rfl, by intro W hSW; (try dsimp only at hSW); go_simp; try (with_reducible rfl)⟩) hHeld ?_
      try simp only [Act.put, List.getElem_toArray, List.getElem_cons_zero, List.getElem_cons_succ, List.setIfInBounds_toArray, List.set_cons_zero, List.set_cons_succ]
      refine wpAnyH_take (i := 4) rfl (by kernel_rfl) (by kernel_rfl) (by kernel_rfl) (fun _ _ _ h => h) (Or.inl ⟨by rfl, by intro W hSW; (try dsimp only at hSW); go_simp; try (with_reducible rfl)⟩) hHeld ?_
      try simp only [Act.put, List.getElem_toArray, List.getElem_cons_zero, List.getElem_cons_succ, List.setIfInBounds_toArray, List.set_cons_zero, List.set_cons_succ]
      refine wpAnyH_take (i := 5) rfl (by kernel_rfl) (by kernel_rfl) (by kernel_rfl) (fun _ _ _ h => h) (Or.inl ⟨by rfl, by intro W hSW; (try dsimp only at hSW); go_simp; try (with_reducible rfl)⟩) hHeld ?_
      try simp only [Act.put, List.getElem_toArray, List.getElem_cons_zero, List.getElem_cons_succ, List.setIfInBounds_toArray, List.set_cons_zero, List.set_cons_succ]
      refine wpAnyH_ready (rs := [2]) (by kernel_rfl) (by simp) ?_
      refine AllReadyH.cons rfl (fun K hK => ?_) AllReadyH.nil
      go_simp
      refine (HPT.out _ hHeld).mono ?_
      rintro e w6 ⟨v1, rfl, hs6, qb⟩
      have q6 := hHeld.trans (qb.mono hHeld.size)
      try go_wp2_with fail
      refine hK.out _ _ (q6) ?_
      clear hK K hHeld
      intro hHeld
      try simp only [Act.put, List.getElem_toArray, List.getElem_cons_zero, List.getElem_cons_succ, List.setIfInBounds_toArray, List.set_cons_zero, List.set_cons_succ]
      have HS6 := Lib.hid hs6
      have HB6 := Lib.hid q6
      clear hs6 q6 qb
      have MK2 := Lib.hid (show ∀ w', Below w6.heap.size w6 w' → (fun w' => (convert 37 9 v1).run Try.prog w' = .ok (.string TT) w' ∧ Below w6.heap.size w6 w') w' from fun w' hb => ⟨HT1.out _ _ _ (HS6.out.below hb), hb⟩)
      refine Mem.wpAnyH_mono (fun w' => (convert 37 9 v1).run Try.prog w' = .ok (.string TT) w' ∧ Below w6.heap.size w6 w') (fun w' h => HB6.out.trans (h.2.mono HB6.out.size)) _ _ _ _ ?_
      clear hHeld
      have hHeld := MK2.out _ (Below.refl _ _)
      refine wpAnyH_take (i := 3) rfl (by kernel_rfl) (by kernel_rfl) (by kernel_rfl) (fun _ _ _ h => h) (Or.inl ⟨by rfl, by intro W hSW; (try dsimp only at hSW); go_simp; try (with_reducible rfl)⟩) hHeld ?_
      try simp only [Act.put, List.getElem_toArray, List.getElem_cons_zero, List.getElem_cons_succ, List.setIfInBounds_toArray, List.set_cons_zero, List.set_cons_succ]
      refine wpAnyH_ready (rs := [6]) (by kernel_rfl) (by simp) ?_
      refine AllReadyH.cons rfl (fun K hK => ?_) AllReadyH.nil
      go_simp
      refine (HRP.out _ (HB6.out.trans (hHeld.2.mono HB6.out.size))).mono ?_
      rintro e w7 ⟨v2, rfl, hs7, qb⟩
      try go_wp2_with fail
      refine hK.out _ _ (MK2.out _ (hHeld.2.trans (qb.mono hHeld.2.size))) ?_
      clear hK K hHeld
      intro hHeld
      try simp only [Act.put, List.getElem_toArray, List.getElem_cons_zero, List.getElem_cons_succ, List.setIfInBounds_toArray, List.set_cons_zero, List.set_cons_succ]
      have hc7 := HT1.out _ _ _ hs7
      clear hs7 qb
      refine wpAnyH_ready (rs := [7]) (by kernel_rfl) (by simp) ?_
      refine AllReadyH.cons rfl (fun K hK => ?_) AllReadyH.nil
      go_simp
      refine hK.out _ _ (hHeld) ?_
      clear hK K hHeld
      intro hHeld
      try simp only [Act.put, List.getElem_toArray, List.getElem_cons_zero, List.getElem_cons_succ, List.setIfInBounds_toArray, List.set_cons_zero, List.set_cons_succ]
      clear hc7
      refine wpAnyH_take (i := 8) rfl (by kernel_rfl) (by kernel_rfl) (by kernel_rfl) (fun _ _ _ h => h) (Or.inl ⟨by rfl, by intro W hSW; (try dsimp only at hSW); go_simp; try (with_reducible rfl)⟩) hHeld ?_
      try simp only [Act.put, List.getElem_toArray, List.getElem_cons_zero, List.getElem_cons_succ, List.setIfInBounds_toArray, List.set_cons_zero, List.set_cons_succ]
      refine wpAnyH_done (by kernel_rfl) ?_ _
      refine NoPanic.normal ?_
      have HB7 := Lib.hid (HB6.out.trans (hHeld.2.mono HB6.out.size))
      clear hHeld MK2 HS6 HB6 HT1 HPT HRP
      go_wp2_with fail
      refine (HNW.out _ HB7.out).mono ?_
      rintro e w8 ⟨g, A, c, rfl, hg, hr, b8⟩
      have HB8 := Lib.hid (to_ HB7.out b8)
      have HR8 := Lib.hid hr
      have HG8 := Lib.hid (Nat.le_trans HB7.out.size hg)
      clear hr b8 hg HB7
      go_wp2_with fail
      refine (HGT.out _ _ _ _ HR8.out).mono ?_
      rintro e w9 ⟨A3, c3, rfl, hx, hrd, hgr⟩
      have b9 := HB8.out.grown hgr HB8.out.size (fun r e => by injection e with e; have := HG8.out; omega)
      have HB9 := Lib.hid b9
      have HX9 := Lib.hid hx
      have HRD9 := Lib.hid (show Rdr w9 g A c bs S.1 S.2 from hrd)
      clear hx hrd hgr b9 HB8 HR8 HG8
      go_wp2_with fail
      refine (HRG.out _ HB9.out).mono ?_
      rintro e w10 ⟨A4, c4, rfl, hy, b10⟩
      obtain ⟨w11, hw11⟩ : ∃ w11, w10.alloc (.cells #[.slice A2 n2 c2, .int .i64 (S.1 : Int), .bool (!S.2)] 44) = w11 := ⟨_, rfl⟩
      have b11 : Below w10.heap.size w10 w11 := by rw [← hw11]; exact alloc_ _ _
      have HZ := Lib.hid (show Blk w11 w10.heap.size 44 #[.slice A2 n2 c2, .int .i64 (S.1 : Int), .bool (!S.2)] from by rw [← hw11]; exact Blk.new w10 _ _)
      have HX11 := Lib.hid ((HX9.out.on b10).on b11)
      have HY11 := Lib.hid (hy.on b11)
      have HRD10 := Rdr.below HRD9.out b10 HRD9.out.blk.lt
      have HRD11 := Lib.hid (Rdr.below HRD10 b11 HRD10.blk.lt)
      have HB11 := Lib.hid (to_ (to_ HB9.out b10) b11)
      have MK8 := Lib.hid (show ∀ W, Below w11.heap.size w11 W → (fun W => W.cell? ⟨w10.heap.size, 1, none⟩ = some (.int .i64 (S.1 : Int)) ∧ Below w11.heap.size w11 W) W from fun W hb => ⟨(hb.cell HZ.out.lt).trans (HZ.out.cell 1), hb⟩)
      clear hy b10 b11 HRD10 HB9 HX9 HRD9 HRG HGT HNW
      by_cases hE : E = 0
      · subst hE
        go_wp2_with fail
        clear hw11
        refine wp_region_noPanic ?_
        refine wp_region_held_drew (S := fun W => W.cell? ⟨w10.heap.size, 1, none⟩ = some (.int .i64 (S.1 : Int)) ∧ Below w11.heap.size w11 W) (by kernel_rfl) (MK8.out _ (Below.refl _ _).drew) (fun hHeld => ?_)
        refine wpAnyH_take (i := 0) rfl (by kernel_rfl) (by kernel_rfl) (by kernel_rfl) (fun _ _ _ h => h) (Or.inl ⟨by rfl, by intro W hSW; (try dsimp only at hSW); go_simp; try (with_reducible rfl)⟩) hHeld ?_
        try simp only [Act.put, List.getElem_toArray, List.getElem_cons_zero, List.getElem_cons_succ, List.setIfInBounds_toArray, List.set_cons_zero, List.set_cons_succ]
        refine wpAnyH_take (i := 1) rfl (by kernel_rfl) (by kernel_rfl) (by kernel_rfl) (fun _ _ _ h => h) (Or.inl ⟨by rfl, by intro W hSW; (try dsimp only at hSW); go_simp; try (with_reducible rfl)⟩) hHeld ?_
        try simp only [Act.put, List.getElem_toArray, List.getElem_cons_zero, List.getElem_cons_succ, List.setIfInBounds_toArray, List.set_cons_zero, List.set_cons_succ]
        refine wpAnyH_ready (rs := [2]) (by kernel_rfl) (by simp) ?_
        refine AllReadyH.cons rfl (fun K hK => ?_) AllReadyH.nil
        go_simp
        refine (same_any _ A3 A4 _ c3 c4 X (HX11.out.on hHeld.2) (HY11.out.on hHeld.2)).mono ?_
        rintro e w12 ⟨rfl, b12⟩
        try go_wp2_with fail
        refine hK.out _ _ (MK8.out _ (hHeld.2.trans (b12.mono hHeld.2.size))) ?_
        clear hK K hHeld
        intro hHeld
        try simp only [Act.put, List.getElem_toArray, List.getElem_cons_zero, List.getElem_cons_succ, List.setIfInBounds_toArray, List.set_cons_zero, List.set_cons_succ]
        clear b12
        refine wpAnyH_take (i := 3) rfl (by kernel_rfl) (by kernel_rfl) (by kernel_rfl) (fun _ _ _ h => h) (Or.inl ⟨by rfl, by intro W hSW; (try dsimp only at hSW); go_simp; try (with_reducible rfl)⟩) hHeld ?_
        try simp only [Act.put, List.getElem_toArray, List.getElem_cons_zero, List.getElem_cons_succ, List.setIfInBounds_toArray, List.set_cons_zero, List.set_cons_succ]
        refine wpAnyH_take (i := 4) rfl (by kernel_rfl) (by kernel_rfl) (by kernel_rfl) (fun _ _ _ h => h) (Or.inl ⟨by rfl, by intro W hSW; (try dsimp only at hSW); go_simp; try (with_reducible rfl)⟩) hHeld ?_
        try simp only [Act.put, List.getElem_toArray, List.getElem_cons_zero, List.getElem_cons_succ, List.setIfInBounds_toArray, List.set_cons_zero, List.set_cons_succ]
        refine wpAnyH_take (i := 5) rfl (by kernel_rfl) (by kernel_rfl) (by kernel_rfl) (fun _ _ _ h => h) (Or.inl ⟨by rfl, by intro W hSW; (try dsimp only at hSW); go_simp; try (with_reducible rfl)⟩) hHeld ?_
        try simp only [Act.put, List.getElem_toArray, List.getElem_cons_zero, List.getElem_cons_succ, List.setIfInBounds_toArray, List.set_cons_zero, List.set_cons_succ]
        refine wpAnyH_take (i := 6) rfl (by kernel_rfl) (by kernel_rfl) (by kernel_rfl) (fun _ _ _ h => h) (Or.inl ⟨by rfl, by intro W hSW; (try dsimp only at hSW); go_simp; try (with_reducible rfl)⟩) hHeld ?_
        try simp only [Act.put, List.getElem_toArray, List.getElem_cons_zero, List.getElem_cons_succ, List.setIfInBounds_toArray, List.set_cons_zero, List.set_cons_succ]
        refine wpAnyH_take (i := 7) rfl (by kernel_rfl) (by kernel_rfl) (by kernel_rfl) (fun _ _ _ h => h) (Or.inl ⟨by rfl, by intro W hSW; (try dsimp only at hSW); go_simp; try (with_reducible rfl)⟩) hHeld ?_
        try simp only [Act.put, List.getElem_toArray, List.getElem_cons_zero, List.getElem_cons_succ, List.setIfInBounds_toArray, List.set_cons_zero, List.set_cons_succ]
        refine wpAnyH_take (i := 8) rfl (by kernel_rfl) (by kernel_rfl) (by kernel_rfl) (fun _ _ _ h => h) (Or.inl ⟨by rfl, by intro W hSW; (try dsimp only at hSW); go_simp; try (with_reducible rfl)⟩) hHeld ?_
        try simp only [Act.put, List.getElem_toArray, List.getElem_cons_zero, List.getElem_cons_succ, List.setIfInBounds_toArray, List.set_cons_zero, List.set_cons_succ]
        refine wpAnyH_take (i := 9) rfl (by kernel_rfl) (by kernel_rfl) (by kernel_rfl) (fun _ _ _ h => h) (Or.inl ⟨by rfl, by intro W hSW; (try dsimp only at hSW); go_simp; try (with_reducible rfl)⟩) hHeld ?_
        try simp only [Act.put, List.getElem_toArray, List.getElem_cons_zero, List.getElem_cons_succ, List.setIfInBounds_toArray, List.set_cons_zero, List.set_cons_succ]
        refine wpAnyH_take (i := 10) rfl (by kernel_rfl) (by kernel_rfl) (by kernel_rfl) (fun _ _ _ h => h) (Or.inl ⟨by rfl, by intro W hSW; (try dsimp only at hSW); go_simp; try (with_reducible rfl)⟩) hHeld ?_
        try simp only [Act.put, List.getElem_toArray, List.getElem_cons_zero, List.getElem_cons_succ, List.setIfInBounds_toArray, List.set_cons_zero, List.set_cons_succ]
        refine wpAnyH_take (i := 11) rfl (by kernel_rfl) (by kernel_rfl) (by kernel_rfl) (fun _ _ _ h => h) (Or.inl ⟨by rfl, by intro W hSW; (try dsimp only at hSW); go_simp; try (with_reducible rfl)⟩) hHeld ?_
        try simp only [Act.put, List.getElem_toArray, List.getElem_cons_zero, List.getElem_cons_succ, List.setIfInBounds_toArray, List.set_cons_zero, List.set_cons_succ]
        refine wpAnyH_take (i := 12) rfl (by kernel_rfl) (by kernel_rfl) (by kernel_rfl) (fun _ _ _ h => h) (Or.inl ⟨by rfl, by intro W hSW; (try dsimp only at hSW); go_simp; try (with_reducible rfl)⟩) hHeld ?_
        try simp only [Act.put, List.getElem_toArray, List.getElem_cons_zero, List.getElem_cons_succ, List.setIfInBounds_toArray, List.set_cons_zero, List.set_cons_succ]
        refine wpAnyH_take (i := 13) rfl (by kernel_rfl) (by kernel_rfl) (by kernel_rfl) (fun _ _ _ h => h) (Or.inl ⟨by rfl, by intro W hSW; (try dsimp only at hSW); go_simp; try (with_reducible rfl)⟩) hHeld ?_
        try simp only [Act.put, List.getElem_toArray, List.getElem_cons_zero, List.getElem_cons_succ, List.setIfInBounds_toArray, List.set_cons_zero, List.set_cons_succ]
        refine wpAnyH_take (i := 15) rfl (by kernel_rfl) (by kernel_rfl) (by kernel_rfl) (fun _ _ _ h => h) (Or.inl ⟨by rfl, by intro W hSW; (try dsimp only at hSW); go_simp; try (with_reducible rfl)⟩) hHeld ?_
        try simp only [Act.put, List.getElem_toArray, List.getElem_cons_zero, List.getElem_cons_succ, List.setIfInBounds_toArray, List.set_cons_zero, List.set_cons_succ]
        refine wpAnyH_take (i := 16) rfl (by kernel_rfl) (by kernel_rfl) (by kernel_rfl) (fun _ _ _ h => h) (Or.inl ⟨by rfl, by intro W hSW; (try dsimp only at hSW); go_simp; try (with_reducible rfl)⟩) hHeld ?_
        try simp only [Act.put, List.getElem_toArray, List.getElem_cons_zero, List.getElem_cons_succ, List.setIfInBounds_toArray, List.set_cons_zero, List.set_cons_succ]
        refine wpAnyH_ready (rs := [14]) (by kernel_rfl) (by simp) ?_
        refine AllReadyH.cons rfl (fun K hK => ?_) AllReadyH.nil
        go_simp
        refine (at_any _ g A c bs S.1 S.2 (Rdr.below HRD11.out hHeld.2 HRD11.out.blk.lt)).mono ?_
        rintro e w13 ⟨rfl, rfl⟩
        try go_wp2_with fail
        refine hK.out _ _ (hHeld) ?_
        clear hK K hHeld
        intro hHeld
        try simp only [Act.put, List.getElem_toArray, List.getElem_cons_zero, List.getElem_cons_succ, List.setIfInBounds_toArray, List.set_cons_zero, List.set_cons_succ]
        refine wpAnyH_take (i := 17) rfl (by kernel_rfl) (by kernel_rfl) (by kernel_rfl) (fun _ _ _ h => h) (Or.inl ⟨by rfl, by intro W hSW; (try dsimp only at hSW); go_simp; try (with_reducible rfl)⟩) hHeld ?_
        try simp only [Act.put, List.getElem_toArray, List.getElem_cons_zero, List.getElem_cons_succ, List.setIfInBounds_toArray, List.set_cons_zero, List.set_cons_succ]
        refine wpAnyH_take (i := 18) rfl (by kernel_rfl) (by kernel_rfl) (by kernel_rfl) (fun _ _ _ h => h) (Or.inl ⟨by rfl, by intro W hSW; (try dsimp only at hSW); go_simp; try (with_reducible rfl)⟩) hHeld ?_
        try simp only [Act.put, List.getElem_toArray, List.getElem_cons_zero, List.getElem_cons_succ, List.setIfInBounds_toArray, List.set_cons_zero, List.set_cons_succ]
        refine wpAnyH_take (i := 19) rfl (by kernel_rfl) (by kernel_rfl) (by kernel_rfl) (fun _ _ _ h => h) (Or.inl ⟨by rfl, by intro W hSW; (try dsimp only at hSW); go_simp; try (with_reducible rfl)⟩) hHeld ?_
        try simp only [Act.put, List.getElem_toArray, List.getElem_cons_zero, List.getElem_cons_succ, List.setIfInBounds_toArray, List.set_cons_zero, List.set_cons_succ]
        refine wpAnyH_done (by kernel_rfl) ?_ _
        refine NoPanic.normal ?_
        have HB12 := Lib.hid (to_ HB11.out hHeld.2)
        clear hHeld HB11 MK8 HX11 HY11 HRD11 HZ
        go_wp2_with fail
        refine (getRuns_nil _).mono ?_
        rintro e w14 ⟨rfl, b14⟩
        have HB14 := Lib.hid (to_ HB12.out b14)
        clear b14 HB12
        go_wp2_with fail
        refine (known13_any _).mono ?_
        rintro e w15 ⟨rfl, b15⟩
        have HB15 := Lib.hid (to_ HB14.out b15)
        clear b15 HB14
        go_wp2_with fail
        go_ret
        exact ⟨rfl, HB15.out⟩
      · go_wp2_with fail
        clear hw11
        refine wp_region_noPanic ?_
        refine wp_region_held_drew (S := fun W => W.cell? ⟨w10.heap.size, 1, none⟩ = some (.int .i64 (S.1 : Int)) ∧ Below w11.heap.size w11 W) (by kernel_rfl) (MK8.out _ (Below.refl _ _).drew) (fun hHeld => ?_)
        refine wpAnyH_take (i := 0) rfl (by kernel_rfl) (by kernel_rfl) (by kernel_rfl) (fun _ _ _ h => h) (Or.inl ⟨by rfl, by intro W hSW; (try dsimp only at hSW); go_simp; try (with_reducible rfl)⟩) hHeld ?_
        try simp only [Act.put, List.getElem_toArray, List.getElem_cons_zero, List.getElem_cons_succ, List.setIfInBounds_toArray, List.set_cons_zero, List.set_cons_succ]
        refine wpAnyH_take (i := 1) rfl (by kernel_rfl) (by kernel_rfl) (by kernel_rfl) (fun _ _ _ h => h) (Or.inl ⟨by rfl, by intro W hSW; (try dsimp only at hSW); go_simp; try (with_reducible rfl)⟩) hHeld ?_
        try simp only [Act.put, List.getElem_toArray, List.getElem_cons_zero, List.getElem_cons_succ, List.setIfInBounds_toArray, List.set_cons_zero, List.set_cons_succ]
        refine wpAnyH_ready (rs := [2]) (by kernel_rfl) (by simp) ?_
        refine AllReadyH.cons rfl (fun K hK => ?_) AllReadyH.nil
        go_simp
        refine (same_any _ A3 A4 _ c3 c4 X (HX11.out.on hHeld.2) (HY11.out.on hHeld.2)).mono ?_
        rintro e w12 ⟨rfl, b12⟩
        try go_wp2_with fail
        refine hK.out _ _ (MK8.out _ (hHeld.2.trans (b12.mono hHeld.2.size))) ?_
        clear hK K hHeld
        intro hHeld
        try simp only [Act.put, List.getElem_toArray, List.getElem_cons_zero, List.getElem_cons_succ, List.setIfInBounds_toArray, List.set_cons_zero, List.set_cons_succ]
        clear b12
        refine wpAnyH_take (i := 3) rfl (by kernel_rfl) (by kernel_rfl) (by kernel_rfl) (fun _ _ _ h => h) (Or.inl ⟨by rfl, by intro W hSW; (try dsimp only at hSW); go_simp; try (with_reducible rfl)⟩) hHeld ?_
        try simp only [Act.put, List.getElem_toArray, List.getElem_cons_zero, List.getElem_cons_succ, List.setIfInBounds_toArray, List.set_cons_zero, List.set_cons_succ]
        refine wpAnyH_take (i := 4) rfl (by kernel_rfl) (by kernel_rfl) (by kernel_rfl) (fun _ _ _ h => h) (Or.inl ⟨by rfl, by intro W hSW; (try dsimp only at hSW); go_simp; try (with_reducible rfl)⟩) hHeld ?_
        try simp only [Act.put, List.getElem_toArray, List.getElem_cons_zero, List.getElem_cons_succ, List.setIfInBounds_toArray, List.set_cons_zero, List.set_cons_succ]
        refine wpAnyH_take (i := 5) rfl (by kernel_rfl) (by kernel_rfl) (by kernel_rfl) (fun _ _ _ h => h) (Or.inl ⟨by rfl, by intro W hSW; (try dsimp only at hSW); go_simp; try (with_reducible rfl)⟩) hHeld ?_
        try simp only [Act.put, List.getElem_toArray, List.getElem_cons_zero, List.getElem_cons_succ, List.setIfInBounds_toArray, List.set_cons_zero, List.set_cons_succ]
        refine wpAnyH_take (i := 6) rfl (by kernel_rfl) (by kernel_rfl) (by kernel_rfl) (fun _ _ _ h => h) (Or.inl ⟨by rfl, by intro W hSW; (try dsimp only at hSW); go_simp; try (with_reducible rfl)⟩) hHeld ?_
        try simp only [Act.put, List.getElem_toArray, List.getElem_cons_zero, List.getElem_cons_succ, List.setIfInBounds_toArray, List.set_cons_zero, List.set_cons_succ]
        refine wpAnyH_take (i := 7) rfl (by kernel_rfl) (by kernel_rfl) (by kernel_rfl) (fun _ _ _ h => h) (Or.inl ⟨by rfl, by intro W hSW; (try dsimp only at hSW); go_simp; try (with_reducible rfl)⟩) hHeld ?_
        try simp only [Act.put, List.getElem_toArray, List.getElem_cons_zero, List.getElem_cons_succ, List.setIfInBounds_toArray, List.set_cons_zero, List.set_cons_succ]
        refine wpAnyH_take (i := 8) rfl (by kernel_rfl) (by kernel_rfl) (by kernel_rfl) (fun _ _ _ h => h) (Or.inl ⟨by rfl, by intro W hSW; (try dsimp only at hSW); go_simp; try (with_reducible rfl)⟩) hHeld ?_
        try simp only [Act.put, List.getElem_toArray, List.getElem_cons_zero, List.getElem_cons_succ, List.setIfInBounds_toArray, List.set_cons_zero, List.set_cons_succ]
        refine wpAnyH_take (i := 9) rfl (by kernel_rfl) (by kernel_rfl) (by kernel_rfl) (fun _ _ _ h => h) (Or.inl ⟨by rfl, by intro W hSW; (try dsimp only at hSW); go_simp; try (with_reducible rfl)⟩) hHeld ?_
        try simp only [Act.put, List.getElem_toArray, List.getElem_cons_zero, List.getElem_cons_succ, List.setIfInBounds_toArray, List.set_cons_zero, List.set_cons_succ]
        refine wpAnyH_take (i := 10) rfl (by kernel_rfl) (by kernel_rfl) (by kernel_rfl) (fun _ _ _ h => h) (Or.inl ⟨by rfl, by intro W hSW; (try dsimp only at hSW); go_simp; try (with_reducible rfl)⟩) hHeld ?_
        try simp only [Act.put, List.getElem_toArray, List.getElem_cons_zero, List.getElem_cons_succ, List.setIfInBounds_toArray, List.set_cons_zero, List.set_cons_succ]
        refine wpAnyH_take (i := 11) rfl (by kernel_rfl) (by kernel_rfl) (by kernel_rfl) (fun _ _ _ h => h) (Or.inl ⟨by rfl, by intro W hSW; (try dsimp only at hSW); go_simp; try (with_reducible rfl)⟩) hHeld ?_
        try simp only [Act.put, List.getElem_toArray, List.getElem_cons_zero, List.getElem_cons_succ, List.setIfInBounds_toArray, List.set_cons_zero, List.set_cons_succ]
        rw [show (E == 0) = false from by simpa using hE]
        refine wpAnyH_take (i := 12) rfl (by kernel_rfl) (by kernel_rfl) (by kernel_rfl) (fun _ _ _ h => h) (Or.inl ⟨by rfl, by intro W hSW; (try dsimp only at hSW); go_simp; try (with_reducible rfl)⟩) hHeld ?_
        try simp only [Act.put, List.getElem_toArray, List.getElem_cons_zero, List.getElem_cons_succ, List.setIfInBounds_toArray, List.set_cons_zero, List.set_cons_succ]
        refine wpAnyH_take (i := 13) rfl (by kernel_rfl) (by kernel_rfl) (by kernel_rfl) (fun _ _ _ h => h) (Or.inr ⟨by rfl, rfl⟩) hHeld ?_
        try simp only [Act.put, List.getElem_toArray, List.getElem_cons_zero, List.getElem_cons_succ, List.setIfInBounds_toArray, List.set_cons_zero, List.set_cons_succ]
        refine wpAnyH_take (i := 14) rfl (by kernel_rfl) (by kernel_rfl) (by kernel_rfl) (fun _ _ _ h => h) (Or.inr ⟨by rfl, rfl⟩) hHeld ?_
        try simp only [Act.put, List.getElem_toArray, List.getElem_cons_zero, List.getElem_cons_succ, List.setIfInBounds_toArray, List.set_cons_zero, List.set_cons_succ]
        refine wpAnyH_take (i := 15) rfl (by kernel_rfl) (by kernel_rfl) (by kernel_rfl) (fun _ _ _ h => h) (Or.inr ⟨by rfl, rfl⟩) hHeld ?_
        try simp only [Act.put, List.getElem_toArray, List.getElem_cons_zero, List.getElem_cons_succ, List.setIfInBounds_toArray, List.set_cons_zero, List.set_cons_succ]
        refine wpAnyH_take (i := 16) rfl (by kernel_rfl) (by kernel_rfl) (by kernel_rfl) (fun _ _ _ h => h) (Or.inr ⟨by rfl, rfl⟩) hHeld ?_
        try simp only [Act.put, List.getElem_toArray, List.getElem_cons_zero, List.getElem_cons_succ, List.setIfInBounds_toArray, List.set_cons_zero, List.set_cons_succ]
        refine wpAnyH_take (i := 17) rfl (by kernel_rfl) (by kernel_rfl) (by kernel_rfl) (fun _ _ _ h => h) (Or.inr ⟨by rfl, rfl⟩) hHeld ?_
        try simp only [Act.put, List.getElem_toArray, List.getElem_cons_zero, List.getElem_cons_succ, List.setIfInBounds_toArray, List.set_cons_zero, List.set_cons_succ]
        refine wpAnyH_take (i := 18) rfl (by kernel_rfl) (by kernel_rfl) (by kernel_rfl) (fun _ _ _ h => h) (Or.inl ⟨by rfl, by intro W hSW; (try dsimp only at hSW); go_simp; try (with_reducible rfl)⟩) hHeld ?_
        try simp only [Act.put, List.getElem_toArray, List.getElem_cons_zero, List.getElem_cons_succ, List.setIfInBounds_toArray, List.set_cons_zero, List.set_cons_succ]
        refine wpAnyH_take (i := 19) rfl (by kernel_rfl) (by kernel_rfl) (by kernel_rfl) (fun _ _ _ h => h) (Or.inl ⟨by rfl, by intro W hSW; (try dsimp only at hSW); go_simp; try (with_reducible rfl)⟩) hHeld ?_
        try simp only [Act.put, List.getElem_toArray, List.getElem_cons_zero, List.getElem_cons_succ, List.setIfInBounds_toArray, List.set_cons_zero, List.set_cons_succ]
        refine wpAnyH_done (by kernel_rfl) ?_ _
        refine NoPanic.normal ?_
        have HB12 := Lib.hid (to_ HB11.out hHeld.2)
        clear hHeld HB11 MK8 HX11 HY11 HRD11 HZ
        go_wp2_with fail
        refine (getRuns_nil _).mono ?_
        rintro e w14 ⟨rfl, b14⟩
        have HB14 := Lib.hid (to_ HB12.out b14)
        clear b14 HB12
        go_wp2_with fail
        refine (known13_any _).mono ?_
        rintro e w15 ⟨rfl, b15⟩
        have HB15 := Lib.hid (to_ HB14.out b15)
        clear b15 HB14
        go_wp2_with fail
        go_ret
        exact ⟨rfl, HB15.out⟩
end Go.Proofs.Ytckpbdphilifoaa.By
