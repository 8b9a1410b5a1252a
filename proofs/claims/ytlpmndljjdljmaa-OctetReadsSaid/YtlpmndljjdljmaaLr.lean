/-
  WALK: the law OctetReads, of any bytes and steps that came in.
-/
import Derived.Test.YtlpmndljjdljmaaRh
import Derived.Test.YtlpmndljjdljmaaKo
import Derived.Test.YtlpmndljjdljmaaHm
import Derived.IntWalk
namespace Go.Proofs.Ytlpmndljjdljmaa.By
open Go.ChangeShapes Go.WideShapes Go.ChangeAt Go.RowKit
open Mem

/-- What the walk is told of the steps: each one's kind and number. -/
def IsSteps (w : World) (a : Option Addr) (len cap : Nat) (kd nn : Nat → Int) : Prop :=
  (a = none ∧ len = 0 ∧ cap = 0) ∨
  ∃ x, a = some x ∧ len ≤ cap ∧ cap ≤ maxLen ∧ ∀ i, i < len → w.cell? (x.add (i * 2)) = some (.int .i64 (kd i)) ∧ w.cell? (x.add (i * 2 + 1)) = some (.int .i64 (nn i)) ∧ (Lit.int .i64 (kd i)).wf = true ∧ (Lit.int .i64 (nn i)).wf = true

theorem Rdr.only {w w' : World} {g G : Nat} {A : Option Addr} {c : Nat} {l : List UInt8} {p : Nat} {good : Bool} (h : Rdr w g A c l p good) (hg : w.grownBy w' (some G)) (hgG : g < G) : Rdr w' g A c l p good :=
  ⟨h.blk.only hg (by omega), h.row.only hg (Nat.le_of_lt h.blk.lt) (by omega), h.le, h.few⟩

set_option linter.unusedSimpArgs false in
set_option maxHeartbeats 40000000 in
set_option maxRecDepth 100000 in
theorem reads_any (w : World) (l : List UInt8) (A : Option Addr) (c : Nat) (a1 : Option Addr) (len1 cap1 : Nat) (kd nn : Nat → Int) (hsl : SlV w w.heap.size (.slice A l.length c) (u8s l)) (w1 : IsSteps w a1 len1 cap1 kd nn) (hl0 : l.length ≤ 600) (hl1 : len1 ≤ 60) :
    Calls Try.prog 3 #[.slice A l.length c, .slice a1 len1 cap1] w fun e w' => e = .returned (.bool true) ∧ Below w.heap.size w w' := by
  have HN := Lib.hid (new_any _ l w _ hsl (by omega))
  obtain ⟨n, hn⟩ : ∃ n, l.length = n := ⟨_, rfl⟩
  have HLL := Lib.hid hn
  rw [hn] at hl0 hsl HN ⊢
  have d1 : decide (600 < (n : Int)) = false := by simp; omega
  have d2 : decide (60 < (len1 : Int)) = false := by simp; omega
  have HSL := Lib.hid hsl
  have HST := Lib.hid w1
  clear hsl w1 hn
  go_enter Try.func3, Try.ntmps3
  go_wp2_with fail
  refine HN.out.mono ?_
  rintro e u1 ⟨g, A1, c1, rfl, hg, hr1, hb1⟩
  have HB1 := Lib.hid (hb1.alloc hb1.size (.cells #[.slice A n c, .int .i64 0, .bool false] 28))
  have hgu := hr1.blk.lt
  have HR1 := Lib.hid (hr1.below ((Below.refl u1.heap.size u1).alloc (Nat.le_refl _) (.cells #[.slice A n c, .int .i64 0, .bool false] 28)) hgu)
  have HG1 := Lib.hid (Mem.Blk.new u1 28 #[.slice A n c, .int .i64 0, .bool false])
  clear hr1 hb1 HN
  obtain ⟨G, hG⟩ : ∃ G, u1.heap.size = G := ⟨_, rfl⟩
  rw [hG] at hgu HG1
  have HGE := Lib.hid hG
  clear hG
  go_wp2_with fail
  rw [HGE.out]
  go_loopw [7] (fun v wr => ∃ (i p : Nat) (good : Bool), i ≤ len1 ∧ v = .int .i64 i ∧ Hid (Rdr wr g A1 c1 l p good) ∧ Hid (Mem.Blk wr G 28 #[.slice A n c, .int .i64 p, .bool (!good)]) ∧ Hid (Below w.heap.size w wr)) (fun v _ => len1 - (intOf v).toNat)
  case atStart => exact ⟨0, 0, true, by omega, rfl, HR1, HG1, HB1⟩
  case round =>
    clear HR1 HG1 HB1 HGE
    obtain ⟨i, p, good, hi, rfl, HR, HG, HB⟩ := hrel
    by_cases hlt : i < len1
    · rcases HST.out with ⟨_, h0, _⟩ | ⟨x, rfl, hlc, hcm, hall⟩
      · omega
      · obtain ⟨s0, s1, wk, wn⟩ := hall i hlt
        have k0 := (HB.out.cell (World.block_lt_of_cell? w _ s0)).trans s0
        have k1 := (HB.out.cell (World.block_lt_of_cell? w _ s1)).trans s1
        have HXW := Lib.hid (World.block_lt_of_cell? w _ s0)
        clear s0 s1 hall
        unfold maxLen at hcm
        generalize kd i = kk at k0 wk
        generalize nn i = k at k1 wn
        have hGw : w.heap.size ≤ G := by omega
        have m0 : wr.cell? ⟨G, 0, none⟩ = some (.slice A n c) := by rw [HG.out.cell]; rfl
        have m1 : wr.cell? ⟨G, 1, none⟩ = some (.int .i64 p) := by rw [HG.out.cell]; rfl
        have m2 : wr.cell? ⟨G, 2, none⟩ = some (.bool (!good)) := by rw [HG.out.cell]; rfl
        have k1' : wr.cell? ⟨(x.add (i * 2)).block, (x.add (i * 2)).off + 1, none⟩ = some (.int .i64 k) := by
          have e : (x.add (i * 2)).add 1 = ⟨(x.add (i * 2)).block, (x.add (i * 2)).off + 1, none⟩ := rfl
          rw [← e, Mem.add_twice]; exact k1
        clear k1
        have HSW := Lib.hid (HSL.out.below HB.out)
        have HXG := Lib.hid (show ¬ (x.add (i * 2)).block = G from fun e => by have := HXW.out; omega)
        by_cases hk0 : kk = 0
        · subst hk0
          have C26 := Lib.hid (show ∀ (w' : World), Below wr.heap.size wr w' → Calls Try.prog 9 #[.agg #[.slice A n c, .int .i64 p, .bool (!good)], .int .i64 k, .bool false] w' fun e w'' => e = .returned (.tuple #[.agg #[.slice A n c, .int .i64 (readP l p good k), .bool (!fitsB l p good k)], .int .i64 (readV false l p good k)]) ∧ Below w'.heap.size w' w'' from fun w' hb => by
            have h := rnum_any w' w.heap.size A c l p good false k HR.out.le (by have := HLL.out; omega) (by rw [HLL.out]; exact HSW.out.below (hb.mono HB.out.size))
            rw [HLL.out] at h
            exact h)
          have MK := Lib.hid (show ∀ w', Below wr.heap.size wr w' → (w'.cell? ⟨G, 0, none⟩ = some (.slice A n c) ∧ w'.cell? ⟨G, 1, none⟩ = some (.int .i64 p) ∧ w'.cell? ⟨G, 2, none⟩ = some (.bool (!good)) ∧ w'.cell? (x.add (i * 2)) = some (.int .i64 0) ∧ w'.cell? ⟨(x.add (i * 2)).block, (x.add (i * 2)).off + 1, none⟩ = some (.int .i64 k) ∧ Below wr.heap.size wr w') from fun w' hb =>
            ⟨(hb.cell HG.out.lt).trans m0, (hb.cell HG.out.lt).trans m1, (hb.cell HG.out.lt).trans m2, (hb.cell (World.block_lt_of_cell? wr _ k0)).trans k0, (hb.cell (World.block_lt_of_cell? wr _ k1')).trans k1', hb⟩)
          go_wp2_with fail
          clear m0 m1 m2 k0 k1'
          refine wp_region_noPanic ?_
          refine wp_region_held_drew (S := fun w' => w'.cell? ⟨G, 0, none⟩ = some (.slice A n c) ∧ w'.cell? ⟨G, 1, none⟩ = some (.int .i64 p) ∧ w'.cell? ⟨G, 2, none⟩ = some (.bool (!good)) ∧ w'.cell? (x.add (i * 2)) = some (.int .i64 0) ∧ w'.cell? ⟨(x.add (i * 2)).block, (x.add (i * 2)).off + 1, none⟩ = some (.int .i64 k) ∧ Below wr.heap.size wr w') (by kernel_rfl) (MK.out _ (Below.refl _ _).drew) (fun hHeld => ?_)
          refine wpAnyH_take (i := 0) rfl (by kernel_rfl) (by kernel_rfl) (by kernel_rfl) (fun _ _ _ h => h) (Or.inl ⟨by rfl, by intro W hSW; (try dsimp only at hSW); go_simp; try (with_reducible rfl)⟩) hHeld ?_
          try simp only [Act.put, List.getElem_toArray, List.getElem_cons_zero, List.getElem_cons_succ, List.setIfInBounds_toArray, List.set_cons_zero, List.set_cons_succ]
          refine wpAnyH_take (i := 1) rfl (by kernel_rfl) (by kernel_rfl) (by kernel_rfl) (fun _ _ _ h => h) (Or.inl ⟨by rfl, by intro W hSW; (try dsimp only at hSW); go_simp; try (with_reducible rfl)⟩) hHeld ?_
          try simp only [Act.put, List.getElem_toArray, List.getElem_cons_zero, List.getElem_cons_succ, List.setIfInBounds_toArray, List.set_cons_zero, List.set_cons_succ]
          refine wpAnyH_take (i := 2) rfl (by kernel_rfl) (by kernel_rfl) (by kernel_rfl) (fun _ _ _ h => h) (Or.inl ⟨by rfl, by intro W hSW; (try dsimp only at hSW); go_simp; try (with_reducible rfl)⟩) hHeld ?_
          try simp only [Act.put, List.getElem_toArray, List.getElem_cons_zero, List.getElem_cons_succ, List.setIfInBounds_toArray, List.set_cons_zero, List.set_cons_succ]
          refine wpAnyH_take (i := 3) rfl (by kernel_rfl) (by kernel_rfl) (by kernel_rfl) (fun _ _ _ h => h) (Or.inl ⟨by rfl, by intro W hSW; (try dsimp only at hSW); go_simp; try (with_reducible rfl)⟩) hHeld ?_
          try simp only [Act.put, List.getElem_toArray, List.getElem_cons_zero, List.getElem_cons_succ, List.setIfInBounds_toArray, List.set_cons_zero, List.set_cons_succ]
          refine wpAnyH_take (i := 4) rfl (by kernel_rfl) (by kernel_rfl) (by kernel_rfl) (fun _ _ _ h => h) (Or.inl ⟨by rfl, by intro W hSW; (try dsimp only at hSW); go_simp; try (with_reducible rfl)⟩) hHeld ?_
          try simp only [Act.put, List.getElem_toArray, List.getElem_cons_zero, List.getElem_cons_succ, List.setIfInBounds_toArray, List.set_cons_zero, List.set_cons_succ]
          refine wpAnyH_take (i := 5) rfl (by kernel_rfl) (by kernel_rfl) (by kernel_rfl) (fun _ _ _ h => h) (Or.inl ⟨by rfl, by intro W hSW; (try dsimp only at hSW); go_simp; try (with_reducible rfl)⟩) hHeld ?_
          try simp only [Act.put, List.getElem_toArray, List.getElem_cons_zero, List.getElem_cons_succ, List.setIfInBounds_toArray, List.set_cons_zero, List.set_cons_succ]
          refine wpAnyH_take (i := 6) rfl (by kernel_rfl) (by kernel_rfl) (by kernel_rfl) (fun _ _ _ h => h) (Or.inl ⟨by rfl, by intro W hSW; (try dsimp only at hSW); go_simp; try (with_reducible rfl)⟩) hHeld ?_
          try simp only [Act.put, List.getElem_toArray, List.getElem_cons_zero, List.getElem_cons_succ, List.setIfInBounds_toArray, List.set_cons_zero, List.set_cons_succ]
          refine wpAnyH_take (i := 7) rfl (by kernel_rfl) (by kernel_rfl) (by kernel_rfl) (fun _ _ _ h => h) (Or.inl ⟨by rfl, by intro W hSW; (try dsimp only at hSW); go_simp; try (with_reducible rfl)⟩) hHeld ?_
          try simp only [Act.put, List.getElem_toArray, List.getElem_cons_zero, List.getElem_cons_succ, List.setIfInBounds_toArray, List.set_cons_zero, List.set_cons_succ]
          refine wpAnyH_take (i := 8) rfl (by kernel_rfl) (by kernel_rfl) (by kernel_rfl) (fun _ _ _ h => h) (Or.inl ⟨by rfl, by intro W hSW; (try dsimp only at hSW); go_simp; try (with_reducible rfl)⟩) hHeld ?_
          try simp only [Act.put, List.getElem_toArray, List.getElem_cons_zero, List.getElem_cons_succ, List.setIfInBounds_toArray, List.set_cons_zero, List.set_cons_succ]
          refine wpAnyH_take (i := 9) rfl (by kernel_rfl) (by kernel_rfl) (by kernel_rfl) (fun _ _ _ h => h) (Or.inl ⟨by rfl, by intro W hSW; (try dsimp only at hSW); go_simp; try (with_reducible rfl)⟩) hHeld ?_
          try simp only [Act.put, List.getElem_toArray, List.getElem_cons_zero, List.getElem_cons_succ, List.setIfInBounds_toArray, List.set_cons_zero, List.set_cons_succ]
          refine wpAnyH_take (i := 10) rfl (by kernel_rfl) (by kernel_rfl) (by kernel_rfl) (fun _ _ _ h => h) (Or.inl ⟨by rfl, by intro W hSW; (try dsimp only at hSW); go_simp; try (with_reducible rfl)⟩) hHeld ?_
          try simp only [Act.put, List.getElem_toArray, List.getElem_cons_zero, List.getElem_cons_succ, List.setIfInBounds_toArray, List.set_cons_zero, List.set_cons_succ]
          refine wpAnyH_take (i := 11) rfl (by kernel_rfl) (by kernel_rfl) (by kernel_rfl) (fun _ _ _ h => h) (Or.inl ⟨by rfl, by intro W hSW; (try dsimp only at hSW); go_simp; try (with_reducible rfl)⟩) hHeld ?_
          try simp only [Act.put, List.getElem_toArray, List.getElem_cons_zero, List.getElem_cons_succ, List.setIfInBounds_toArray, List.set_cons_zero, List.set_cons_succ]
          refine wpAnyH_ready (rs := [12, 16]) (by kernel_rfl) (by simp) ?_
          refine AllReadyH.cons rfl (fun K hK => ?_) (AllReadyH.cons rfl (fun K hK => ?_) AllReadyH.nil)
          · go_simp
            refine (C26.out _ hHeld.2.2.2.2.2).mono ?_
            rintro e w4 ⟨rfl, qb⟩
            try go_wp2_with fail
            refine hK.out _ _ (MK.out _ (hHeld.2.2.2.2.2.trans (qb.mono hHeld.2.2.2.2.2.size))) ?_
            clear hK K hHeld qb
            intro hHeld
            try simp only [Act.put, List.getElem_toArray, List.getElem_cons_zero, List.getElem_cons_succ, List.setIfInBounds_toArray, List.set_cons_zero, List.set_cons_succ]
            refine wpAnyH_take (i := 13) rfl (by kernel_rfl) (by kernel_rfl) (by kernel_rfl) (fun _ _ _ h => h) (Or.inl ⟨by rfl, by intro W hSW; (try dsimp only at hSW); go_simp; try (with_reducible rfl)⟩) hHeld ?_
            try simp only [Act.put, List.getElem_toArray, List.getElem_cons_zero, List.getElem_cons_succ, List.setIfInBounds_toArray, List.set_cons_zero, List.set_cons_succ]
            refine wpAnyH_take (i := 14) rfl (by kernel_rfl) (by kernel_rfl) (by kernel_rfl) (fun _ _ _ h => h) (Or.inl ⟨by rfl, by intro W hSW; (try dsimp only at hSW); go_simp; try (with_reducible rfl)⟩) hHeld ?_
            try simp only [Act.put, List.getElem_toArray, List.getElem_cons_zero, List.getElem_cons_succ, List.setIfInBounds_toArray, List.set_cons_zero, List.set_cons_succ]
            refine wpAnyH_take (i := 15) rfl (by kernel_rfl) (by kernel_rfl) (by kernel_rfl) (fun _ _ _ h => h) (Or.inl ⟨by rfl, by intro W hSW; (try dsimp only at hSW); go_simp; try (with_reducible rfl)⟩) hHeld ?_
            try simp only [Act.put, List.getElem_toArray, List.getElem_cons_zero, List.getElem_cons_succ, List.setIfInBounds_toArray, List.set_cons_zero, List.set_cons_succ]
            refine wpAnyH_ready (rs := [16]) (by kernel_rfl) (by simp) ?_
            refine AllReadyH.cons rfl (fun K hK => ?_) AllReadyH.nil
            go_simp
            refine hK.out _ _ (MK.out _ (hHeld.2.2.2.2.2.alloc hHeld.2.2.2.2.2.size _)) ?_
            clear hK K
            intro hHeld2
            try simp only [Act.put, List.getElem_toArray, List.getElem_cons_zero, List.getElem_cons_succ, List.setIfInBounds_toArray, List.set_cons_zero, List.set_cons_succ]
            have HH := Lib.hid (Mem.Blk.new w4 28 #[.slice none 0 0, .int .i64 0, .bool false])
            have HBW := Lib.hid hHeld2.2.2.2.2.2
            have HLT := Lib.hid (show wr.heap.size ≤ w4.heap.size from hHeld.2.2.2.2.2.size)
            refine wpAnyH_ready (rs := [17]) (by kernel_rfl) (by simp) ?_
            refine AllReadyH.cons rfl (fun K hK => ?_) AllReadyH.nil
            go_simp
            obtain ⟨w5, hw5⟩ : ∃ w5, w4.alloc (.cells #[.slice A n c, .int .i64 (readP l p good k), .bool (!fitsB l p good k)] 28) = w5 := ⟨_, rfl⟩
            rw [hw5]
            have HW5 := Lib.hid (show Mem.Blk w5 w4.heap.size 28 #[.slice A n c, .int .i64 (readP l p good k), .bool (!fitsB l p good k)] by rw [← hw5]; exact Mem.Blk.new w4 28 #[.slice A n c, .int .i64 (readP l p good k), .bool (!fitsB l p good k)])
            have HB5 := Lib.hid (show Below wr.heap.size wr w5 by rw [← hw5]; exact hHeld.2.2.2.2.2.alloc hHeld.2.2.2.2.2.size _)
            have hH := HLT.out
            obtain ⟨H, hHe⟩ : ∃ H, w4.heap.size = H := ⟨_, rfl⟩
            rw [hHe] at HW5 hH ⊢
            refine hK.out _ _ (MK.out _ HB5.out) ?_
            clear hK K hHeld hHeld2 HH HBW HLT hw5 hHe
            intro hHeld
            try simp only [Act.put, List.getElem_toArray, List.getElem_cons_zero, List.getElem_cons_succ, List.setIfInBounds_toArray, List.set_cons_zero, List.set_cons_succ]
            refine wpAnyH_take (i := 18) rfl (by kernel_rfl) (by kernel_rfl) (by kernel_rfl) (fun _ _ _ h => h) (Or.inl ⟨by rfl, by intro W hSW; (try dsimp only at hSW); go_simp; try (with_reducible rfl)⟩) hHeld ?_
            try simp only [Act.put, List.getElem_toArray, List.getElem_cons_zero, List.getElem_cons_succ, List.setIfInBounds_toArray, List.set_cons_zero, List.set_cons_succ]
            refine wpAnyH_done (by kernel_rfl) ?_ _
            refine NoPanic.normal ?_
            have HR5 := Lib.hid (HR.out.below HB5.out HR.out.blk.lt)
            have HG5 := Lib.hid (HG.out.below HB5.out HG.out.lt)
            have hGlt := HG.out.lt
            have hGH : ¬ H = G := by omega
            have hHG : ¬ G = H := by omega
            have h0 : w5.cell? ⟨H, 0, none⟩ = some (.slice A n c) := by rw [HW5.out.cell]; rfl
            have h1 : w5.cell? ⟨H, 1, none⟩ = some (.int .i64 (readP l p good k)) := by rw [HW5.out.cell]; rfl
            have h2 : w5.cell? ⟨H, 2, none⟩ = some (.bool (!fitsB l p good k)) := by rw [HW5.out.cell]; rfl
            have g0 := hHeld.1
            have g1 := hHeld.2.1
            have g2 := hHeld.2.2.1
            have f0 := HG5.out.frozen 0
            have f1 := HG5.out.frozen 1
            have f2 := HG5.out.frozen 2
            have hxG : ¬ (x.add (i * 2)).block = G := HXG.out
            have k6 : (((w5.setCell ⟨G, 0, none⟩ (.slice A n c)).setCell ⟨G, 1, none⟩ (.int .i64 (readP l p good k))).setCell ⟨G, 2, none⟩ (.bool (!fitsB l p good k))).cell? (x.add (i * 2)) = some (.int .i64 0) := by
              rw [World.cell?_setCell_other _ _ _ _ (fun e => hxG (by have h := congrArg Addr.block e; first | exact h | exact h.symm)), World.cell?_setCell_other _ _ _ _ (fun e => hxG (by have h := congrArg Addr.block e; first | exact h | exact h.symm)), World.cell?_setCell_other _ _ _ _ (fun e => hxG (by have h := congrArg Addr.block e; first | exact h | exact h.symm))]; exact hHeld.2.2.2.1
            have k7 : (((w5.setCell ⟨G, 0, none⟩ (.slice A n c)).setCell ⟨G, 1, none⟩ (.int .i64 (readP l p good k))).setCell ⟨G, 2, none⟩ (.bool (!fitsB l p good k))).cell? ⟨(x.add (i * 2)).block, (x.add (i * 2)).off + 1, none⟩ = some (.int .i64 k) := by
              rw [World.cell?_setCell_other _ _ _ _ (fun e => hxG (by have h := congrArg Addr.block e; first | exact h | exact h.symm)), World.cell?_setCell_other _ _ _ _ (fun e => hxG (by have h := congrArg Addr.block e; first | exact h | exact h.symm)), World.cell?_setCell_other _ _ _ _ (fun e => hxG (by have h := congrArg Addr.block e; first | exact h | exact h.symm))]; exact hHeld.2.2.2.2.1
            clear hHeld
            go_wp2_with fail
            obtain ⟨w6, hw6⟩ : ∃ w6, (((w5.setCell ⟨G, 0, none⟩ (.slice A n c)).setCell ⟨G, 1, none⟩ (.int .i64 (readP l p good k))).setCell ⟨G, 2, none⟩ (.bool (!fitsB l p good k))) = w6 := ⟨_, rfl⟩
            have ho6 : w5.grownBy w6 (some G) := by rw [← hw6]; exact only_set (only_set (only_set (only_refl w5 G) 0 _) 1 _) 2 _
            have HG6 := Lib.hid (show Mem.Blk w6 G 28 #[.slice A n c, .int .i64 (readP l p good k), .bool (!fitsB l p good k)] by rw [← hw6]; simpa using ((HG5.out.stored 0 (.slice A n c)).stored 1 (.int .i64 (readP l p good k))).stored 2 (.bool (!fitsB l p good k)))
            rw [hw6] at k6 k7 ⊢
            have HR6 := Lib.hid (HR5.out.only ho6 hgu)
            have HB6 := Lib.hid (below_of_only (HB.out.trans (HB5.out.mono HB.out.size)) ho6 (by have := HB.out.size; have := HB5.out.size; omega) hGw)
            clear h0 h1 h2 g0 g1 g2 f0 f1 f2 hw6 ho6 HW5 HR5 HG5 hGH hHG hxG k6 k7 hH
            have HC := num_any w6 g A1 c1 l p good HR6.out k
            unfold Read at HC
            have HC2 := Lib.hid HC
            clear HC
            refine HC2.out.mono ?_
            rintro e w7 ⟨rfl, hr7, ho7⟩
            have HR7 := Lib.hid hr7
            have HG7 := Lib.hid (HG6.out.only ho7 (by omega))
            have HB7 := Lib.hid (below_of_only HB6.out ho7 HB6.out.size hg)
            clear hr7 ho7 HG6 HR6 HB6 HC2
            generalize readV false l p good k = z
            generalize readP l p good k = pp at HR7 HG7
            generalize fitsB l p good k = ff at HR7 HG7
            have n1 : w7.cell? ⟨G, 1, none⟩ = some (.int .i64 (pp : Int)) := by rw [HG7.out.cell]; rfl
            have n2 : w7.cell? ⟨G, 2, none⟩ = some (.bool (!ff)) := by rw [HG7.out.cell]; rfl
            have MK7 := Lib.hid (show ∀ w', Below w7.heap.size w7 w' → (w'.cell? ⟨G, 1, none⟩ = some (.int .i64 (pp : Int)) ∧ w'.cell? ⟨G, 2, none⟩ = some (.bool (!ff)) ∧ Below w7.heap.size w7 w') from fun w' hb => ⟨(hb.cell HG7.out.lt).trans n1, (hb.cell HG7.out.lt).trans n2, hb⟩)
            have CAT := Lib.hid (show ∀ w', Below w7.heap.size w7 w' → Calls Try.prog 14 #[.pointer (some ⟨g, 0, none⟩)] w' (fun e w'' => e = .returned (.int .i64 (pp : Int)) ∧ Below w7.heap.size w7 w'') from fun w' hb => (at_any w' g A1 c1 l pp ff (HR7.out.below hb HR7.out.blk.lt)).mono (by rintro e w'' ⟨he, hw⟩; exact ⟨he, by rw [← hw]; exact hb⟩))
            have CLE := Lib.hid (show ∀ w', Below w7.heap.size w7 w' → Calls Try.prog 15 #[.pointer (some ⟨g, 0, none⟩)] w' (fun e w'' => e = .returned (.int .i64 ((n : Int) - pp)) ∧ Below w7.heap.size w7 w'') from fun w' hb => (left_any w' g A1 c1 l pp ff (HR7.out.below hb HR7.out.blk.lt)).mono (by rintro e w'' ⟨he, q, hw⟩; exact ⟨by rw [he, HLL.out], by rw [hw]; exact below_drewN hb q⟩))
            have CBA := Lib.hid (show ∀ w', Below w7.heap.size w7 w' → Calls Try.prog 16 #[.pointer (some ⟨g, 0, none⟩)] w' (fun e w'' => e = .returned (.bool (!ff)) ∧ Below w7.heap.size w7 w'') from fun w' hb => (bad_any w' g A1 c1 l pp ff (HR7.out.below hb HR7.out.blk.lt)).mono (by rintro e w'' ⟨he, hw⟩; exact ⟨he, by rw [← hw]; exact hb⟩))
            have hpn : pp ≤ n := by have := HR7.out.le; have := HLL.out; omega
            clear n1 n2 MK
            go_wp2_with fail
            have hwr : IntKind.i64.wrap ((n : Int) - pp) = (n : Int) - pp := IntWalk.i64_in _ (by omega)
            refine wp_region_noPanic ?_
            refine wp_region_held_drew (S := fun w' => w'.cell? ⟨G, 1, none⟩ = some (.int .i64 (pp : Int)) ∧ w'.cell? ⟨G, 2, none⟩ = some (.bool (!ff)) ∧ Below w7.heap.size w7 w') (by kernel_rfl) (MK7.out _ (Below.refl _ _).drew) (fun hHeld => ?_)
            refine wpAnyH_take (i := 0) rfl (by kernel_rfl) (by kernel_rfl) (by kernel_rfl) (fun _ _ _ h => h) (Or.inl ⟨by rfl, by intro W hSW; (try dsimp only at hSW); go_simp; try (with_reducible rfl)⟩) hHeld ?_
            try simp only [Act.put, List.getElem_toArray, List.getElem_cons_zero, List.getElem_cons_succ, List.setIfInBounds_toArray, List.set_cons_zero, List.set_cons_succ]
            refine wpAnyH_take (i := 2) rfl (by kernel_rfl) (by kernel_rfl) (by kernel_rfl) (fun _ _ _ h => h) (Or.inl ⟨by rfl, by intro W hSW; (try dsimp only at hSW); go_simp; try (with_reducible rfl)⟩) hHeld ?_
            try simp only [Act.put, List.getElem_toArray, List.getElem_cons_zero, List.getElem_cons_succ, List.setIfInBounds_toArray, List.set_cons_zero, List.set_cons_succ]
            refine wpAnyH_take (i := 3) rfl (by kernel_rfl) (by kernel_rfl) (by kernel_rfl) (fun _ _ _ h => h) (Or.inl ⟨by rfl, by intro W hSW; (try dsimp only at hSW); go_simp; try (with_reducible rfl)⟩) hHeld ?_
            try simp only [Act.put, List.getElem_toArray, List.getElem_cons_zero, List.getElem_cons_succ, List.setIfInBounds_toArray, List.set_cons_zero, List.set_cons_succ]
            refine wpAnyH_ready (rs := [1]) (by kernel_rfl) (by simp) ?_
            refine AllReadyH.cons rfl (fun K hK => ?_) AllReadyH.nil
            go_simp
            refine (CAT.out _ hHeld.2.2).mono ?_; rintro e w8 ⟨rfl, qb⟩
            try go_wp2_with fail
            refine hK.out _ _ (MK7.out _ qb) ?_
            clear hK K hHeld
            intro hHeld
            clear qb
            try simp only [Act.put, List.getElem_toArray, List.getElem_cons_zero, List.getElem_cons_succ, List.setIfInBounds_toArray, List.set_cons_zero, List.set_cons_succ]
            refine wpAnyH_take (i := 4) rfl (by kernel_rfl) (by kernel_rfl) (by kernel_rfl) (fun _ _ _ h => h) (Or.inl ⟨by rfl, by intro W hSW; (try dsimp only at hSW); go_simp; try (with_reducible rfl)⟩) hHeld ?_
            try simp only [Act.put, List.getElem_toArray, List.getElem_cons_zero, List.getElem_cons_succ, List.setIfInBounds_toArray, List.set_cons_zero, List.set_cons_succ]
            refine wpAnyH_take (i := 5) rfl (by kernel_rfl) (by kernel_rfl) (by kernel_rfl) (fun _ _ _ h => h) (Or.inl ⟨by rfl, by intro W hSW; (try dsimp only at hSW); go_simp; try (with_reducible rfl)⟩) hHeld ?_
            try simp only [Act.put, List.getElem_toArray, List.getElem_cons_zero, List.getElem_cons_succ, List.setIfInBounds_toArray, List.set_cons_zero, List.set_cons_succ]
            refine wpAnyH_take (i := 6) rfl (by kernel_rfl) (by kernel_rfl) (by kernel_rfl) (fun _ _ _ h => h) (Or.inl ⟨by rfl, by intro W hSW; (try dsimp only at hSW); go_simp; try (with_reducible rfl)⟩) hHeld ?_
            try simp only [Act.put, List.getElem_toArray, List.getElem_cons_zero, List.getElem_cons_succ, List.setIfInBounds_toArray, List.set_cons_zero, List.set_cons_succ]
            refine wpAnyH_take (i := 8) rfl (by kernel_rfl) (by kernel_rfl) (by kernel_rfl) (fun _ _ _ h => h) (Or.inl ⟨by rfl, by intro W hSW; (try dsimp only at hSW); go_simp; try (with_reducible rfl)⟩) hHeld ?_
            try simp only [Act.put, List.getElem_toArray, List.getElem_cons_zero, List.getElem_cons_succ, List.setIfInBounds_toArray, List.set_cons_zero, List.set_cons_succ]
            refine wpAnyH_take (i := 9) rfl (by kernel_rfl) (by kernel_rfl) (by kernel_rfl) (fun _ _ _ h => h) (Or.inl ⟨by rfl, by intro W hSW; (try dsimp only at hSW); go_simp; try (with_reducible rfl)⟩) hHeld ?_
            try simp only [Act.put, List.getElem_toArray, List.getElem_cons_zero, List.getElem_cons_succ, List.setIfInBounds_toArray, List.set_cons_zero, List.set_cons_succ]
            refine wpAnyH_take (i := 10) rfl (by kernel_rfl) (by kernel_rfl) (by kernel_rfl) (fun _ _ _ h => h) (Or.inl ⟨by rfl, by intro W hSW; (try dsimp only at hSW); go_simp; try (with_reducible rfl)⟩) hHeld ?_
            try simp only [Act.put, List.getElem_toArray, List.getElem_cons_zero, List.getElem_cons_succ, List.setIfInBounds_toArray, List.set_cons_zero, List.set_cons_succ]
            refine wpAnyH_take (i := 11) rfl (by kernel_rfl) (by kernel_rfl) (by kernel_rfl) (fun _ _ _ h => h) (Or.inl ⟨by rfl, by intro W hSW; (try dsimp only at hSW); go_simp; try (with_reducible rfl)⟩) hHeld ?_
            try simp only [Act.put, List.getElem_toArray, List.getElem_cons_zero, List.getElem_cons_succ, List.setIfInBounds_toArray, List.set_cons_zero, List.set_cons_succ]
            refine wpAnyH_take (i := 12) rfl (by kernel_rfl) (by kernel_rfl) (by kernel_rfl) (fun _ _ _ h => h) (Or.inl ⟨by rfl, by intro W hSW; (try dsimp only at hSW); go_simp; try (with_reducible rfl)⟩) hHeld ?_
            try simp only [Act.put, List.getElem_toArray, List.getElem_cons_zero, List.getElem_cons_succ, List.setIfInBounds_toArray, List.set_cons_zero, List.set_cons_succ]
            refine wpAnyH_ready (rs := [7]) (by kernel_rfl) (by simp) ?_
            refine AllReadyH.cons rfl (fun K hK => ?_) AllReadyH.nil
            go_simp
            refine (CLE.out _ hHeld.2.2).mono ?_; rintro e w9 ⟨rfl, qb⟩
            try go_wp2_with fail
            refine hK.out _ _ (MK7.out _ qb) ?_
            clear hK K hHeld
            intro hHeld
            clear qb
            try simp only [Act.put, List.getElem_toArray, List.getElem_cons_zero, List.getElem_cons_succ, List.setIfInBounds_toArray, List.set_cons_zero, List.set_cons_succ]
            refine wpAnyH_take (i := 13) rfl (by kernel_rfl) (by kernel_rfl) (by kernel_rfl) (fun _ _ _ h => h) (Or.inl ⟨by rfl, by intro W hSW; (try dsimp only at hSW); go_simp; try (with_reducible rfl)⟩) hHeld ?_
            try simp only [Act.put, List.getElem_toArray, List.getElem_cons_zero, List.getElem_cons_succ, List.setIfInBounds_toArray, List.set_cons_zero, List.set_cons_succ]
            refine wpAnyH_take (i := 14) rfl (by kernel_rfl) (by kernel_rfl) (by kernel_rfl) (fun _ _ _ h => h) (Or.inl ⟨by rfl, by intro W hSW; (try dsimp only at hSW); go_simp; try (with_reducible rfl)⟩) hHeld ?_
            try simp only [Act.put, List.getElem_toArray, List.getElem_cons_zero, List.getElem_cons_succ, List.setIfInBounds_toArray, List.set_cons_zero, List.set_cons_succ]
            refine wpAnyH_take (i := 15) rfl (by kernel_rfl) (by kernel_rfl) (by kernel_rfl) (fun _ _ _ h => h) (Or.inl ⟨by rfl, by intro W hSW; (try dsimp only at hSW); go_simp; try (with_reducible rfl)⟩) hHeld ?_
            try simp only [Act.put, List.getElem_toArray, List.getElem_cons_zero, List.getElem_cons_succ, List.setIfInBounds_toArray, List.set_cons_zero, List.set_cons_succ]
            refine wpAnyH_take (i := 16) rfl (by kernel_rfl) (by kernel_rfl) (by kernel_rfl) (fun _ _ _ h => h) (Or.inl ⟨by rfl, by intro W hSW; (try dsimp only at hSW); go_simp; try (with_reducible rfl)⟩) hHeld ?_
            try simp only [Act.put, List.getElem_toArray, List.getElem_cons_zero, List.getElem_cons_succ, List.setIfInBounds_toArray, List.set_cons_zero, List.set_cons_succ]
            refine wpAnyH_take (i := 18) rfl (by kernel_rfl) (by kernel_rfl) (by kernel_rfl) (fun _ _ _ h => h) (Or.inl ⟨by rfl, by intro W hSW; (try dsimp only at hSW); go_simp; try (with_reducible rfl)⟩) hHeld ?_
            try simp only [Act.put, List.getElem_toArray, List.getElem_cons_zero, List.getElem_cons_succ, List.setIfInBounds_toArray, List.set_cons_zero, List.set_cons_succ]
            refine wpAnyH_take (i := 19) rfl (by kernel_rfl) (by kernel_rfl) (by kernel_rfl) (fun _ _ _ h => h) (Or.inl ⟨by rfl, by intro W hSW; (try dsimp only at hSW); go_simp; try (with_reducible rfl)⟩) hHeld ?_
            try simp only [Act.put, List.getElem_toArray, List.getElem_cons_zero, List.getElem_cons_succ, List.setIfInBounds_toArray, List.set_cons_zero, List.set_cons_succ]
            refine wpAnyH_ready (rs := [17]) (by kernel_rfl) (by simp) ?_
            refine AllReadyH.cons rfl (fun K hK => ?_) AllReadyH.nil
            go_simp
            refine (CBA.out _ hHeld.2.2).mono ?_; rintro e w10 ⟨rfl, qb⟩
            try go_wp2_with fail
            refine hK.out _ _ (MK7.out _ qb) ?_
            clear hK K hHeld
            intro hHeld
            clear qb
            try simp only [Act.put, List.getElem_toArray, List.getElem_cons_zero, List.getElem_cons_succ, List.setIfInBounds_toArray, List.set_cons_zero, List.set_cons_succ]
            refine wpAnyH_take (i := 20) rfl (by kernel_rfl) (by kernel_rfl) (by kernel_rfl) (fun _ _ _ h => h) (Or.inl ⟨by rfl, by intro W hSW; (try dsimp only at hSW); go_simp; try (with_reducible rfl)⟩) hHeld ?_
            try simp only [Act.put, List.getElem_toArray, List.getElem_cons_zero, List.getElem_cons_succ, List.setIfInBounds_toArray, List.set_cons_zero, List.set_cons_succ]
            refine wpAnyH_take (i := 21) rfl (by kernel_rfl) (by kernel_rfl) (by kernel_rfl) (fun _ _ _ h => h) (Or.inl ⟨by rfl, by intro W hSW; (try dsimp only at hSW); go_simp; try (with_reducible rfl)⟩) hHeld ?_
            try simp only [Act.put, List.getElem_toArray, List.getElem_cons_zero, List.getElem_cons_succ, List.setIfInBounds_toArray, List.set_cons_zero, List.set_cons_succ]
            refine wpAnyH_done (by kernel_rfl) ?_ _
            refine NoPanic.normal ?_
            clear hwr
            go_wp2_with fail
            go_roundw
            case rel => exact ⟨i + 1, pp, ff, by omega, by go_num, Lib.hid (HR7.out.below hHeld.2.2 HR7.out.blk.lt), Lib.hid (HG7.out.below hHeld.2.2 HG7.out.lt), Lib.hid (HB7.out.trans (hHeld.2.2.mono HB7.out.size))⟩
            case measure => simp [intOf]; omega
          · go_simp
            refine hK.out _ _ (MK.out _ (hHeld.2.2.2.2.2.alloc hHeld.2.2.2.2.2.size _)) ?_
            clear hK K hHeld
            intro hHeld
            try simp only [Act.put, List.getElem_toArray, List.getElem_cons_zero, List.getElem_cons_succ, List.setIfInBounds_toArray, List.set_cons_zero, List.set_cons_succ]
            have HBa := Lib.hid (hHeld.2.2.2.2.2)
            refine wpAnyH_ready (rs := [12]) (by kernel_rfl) (by simp) ?_
            refine AllReadyH.cons rfl (fun K hK => ?_) AllReadyH.nil
            go_simp
            refine (C26.out _ hHeld.2.2.2.2.2).mono ?_
            rintro e w4 ⟨rfl, qb⟩
            have HH := Lib.hid ((show Mem.Blk ((wr.alloc (.cells #[.slice none 0 0, .int .i64 0, .bool false] 28)).drew) wr.heap.size 28 #[.slice none 0 0, .int .i64 0, .bool false] from Mem.Blk.new wr 28 _).below qb (by show wr.heap.size < (wr.heap.push _).size; simp))
            have HQB := Lib.hid qb
            try go_wp2_with fail
            refine hK.out _ _ (MK.out _ (hHeld.2.2.2.2.2.trans (qb.mono hHeld.2.2.2.2.2.size))) ?_
            clear hK K hHeld qb
            intro hHeld
            try simp only [Act.put, List.getElem_toArray, List.getElem_cons_zero, List.getElem_cons_succ, List.setIfInBounds_toArray, List.set_cons_zero, List.set_cons_succ]
            refine wpAnyH_take (i := 13) rfl (by kernel_rfl) (by kernel_rfl) (by kernel_rfl) (fun _ _ _ h => h) (Or.inl ⟨by rfl, by intro W hSW; (try dsimp only at hSW); go_simp; try (with_reducible rfl)⟩) hHeld ?_
            try simp only [Act.put, List.getElem_toArray, List.getElem_cons_zero, List.getElem_cons_succ, List.setIfInBounds_toArray, List.set_cons_zero, List.set_cons_succ]
            refine wpAnyH_take (i := 14) rfl (by kernel_rfl) (by kernel_rfl) (by kernel_rfl) (fun _ _ _ h => h) (Or.inl ⟨by rfl, by intro W hSW; (try dsimp only at hSW); go_simp; try (with_reducible rfl)⟩) hHeld ?_
            try simp only [Act.put, List.getElem_toArray, List.getElem_cons_zero, List.getElem_cons_succ, List.setIfInBounds_toArray, List.set_cons_zero, List.set_cons_succ]
            refine wpAnyH_take (i := 15) rfl (by kernel_rfl) (by kernel_rfl) (by kernel_rfl) (fun _ _ _ h => h) (Or.inl ⟨by rfl, by intro W hSW; (try dsimp only at hSW); go_simp; try (with_reducible rfl)⟩) hHeld ?_
            try simp only [Act.put, List.getElem_toArray, List.getElem_cons_zero, List.getElem_cons_succ, List.setIfInBounds_toArray, List.set_cons_zero, List.set_cons_succ]
            have f0 := HH.out.frozen 0
            have f1 := HH.out.frozen 1
            have f2 := HH.out.frozen 2
            have c0 : w4.cell? ⟨wr.heap.size, 0, none⟩ = some (.slice none 0 0) := by rw [HH.out.cell]; rfl
            have c1 : w4.cell? ⟨wr.heap.size, 1, none⟩ = some (.int .i64 0) := by rw [HH.out.cell]; rfl
            have c2 : w4.cell? ⟨wr.heap.size, 2, none⟩ = some (.bool false) := by rw [HH.out.cell]; rfl
            refine wpAnyH_ready (rs := [17]) (by kernel_rfl) (by simp) ?_
            refine AllReadyH.cons rfl (fun K hK => ?_) AllReadyH.nil
            go_simp
            obtain ⟨w5, hw5⟩ : ∃ w5, ((w4.setCell ⟨wr.heap.size, 0, none⟩ (.slice A n c)).setCell ⟨wr.heap.size, 1, none⟩ (.int .i64 (readP l p good k))).setCell ⟨wr.heap.size, 2, none⟩ (.bool (!fitsB l p good k)) = w5 := ⟨_, rfl⟩
            rw [hw5]
            have HW5 := Lib.hid (show Mem.Blk w5 wr.heap.size 28 #[.slice A n c, .int .i64 (readP l p good k), .bool (!fitsB l p good k)] by rw [← hw5]; simpa using ((HH.out.stored 0 (.slice A n c)).stored 1 (.int .i64 (readP l p good k))).stored 2 (.bool (!fitsB l p good k)))
            have HB5 := Lib.hid (show Below wr.heap.size wr w5 by rw [← hw5]; exact ((hHeld.2.2.2.2.2.setCell (p := ⟨wr.heap.size, 0, none⟩) (Nat.le_refl _) _).setCell (p := ⟨wr.heap.size, 1, none⟩) (Nat.le_refl _) _).setCell (p := ⟨wr.heap.size, 2, none⟩) (Nat.le_refl _) _)
            have hH := Nat.le_refl wr.heap.size
            obtain ⟨H, hHe⟩ : ∃ H, wr.heap.size = H := ⟨_, rfl⟩
            rw (occs := .pos [2]) [hHe] at hH
            rw [hHe] at HW5
            simp only [hHe]
            have hH2 : wr.heap.size ≤ H := by omega
            clear hH
            have hH := hH2
            refine hK.out _ _ (MK.out _ HB5.out) ?_
            clear hK K hHeld HH HBa HQB hw5 hHe f0 f1 f2 c0 c1 c2 hH2
            intro hHeld
            try simp only [Act.put, List.getElem_toArray, List.getElem_cons_zero, List.getElem_cons_succ, List.setIfInBounds_toArray, List.set_cons_zero, List.set_cons_succ]
            refine wpAnyH_take (i := 18) rfl (by kernel_rfl) (by kernel_rfl) (by kernel_rfl) (fun _ _ _ h => h) (Or.inl ⟨by rfl, by intro W hSW; (try dsimp only at hSW); go_simp; try (with_reducible rfl)⟩) hHeld ?_
            try simp only [Act.put, List.getElem_toArray, List.getElem_cons_zero, List.getElem_cons_succ, List.setIfInBounds_toArray, List.set_cons_zero, List.set_cons_succ]
            refine wpAnyH_done (by kernel_rfl) ?_ _
            refine NoPanic.normal ?_
            have HR5 := Lib.hid (HR.out.below HB5.out HR.out.blk.lt)
            have HG5 := Lib.hid (HG.out.below HB5.out HG.out.lt)
            have hGlt := HG.out.lt
            have hGH : ¬ H = G := by omega
            have hHG : ¬ G = H := by omega
            have h0 : w5.cell? ⟨H, 0, none⟩ = some (.slice A n c) := by rw [HW5.out.cell]; rfl
            have h1 : w5.cell? ⟨H, 1, none⟩ = some (.int .i64 (readP l p good k)) := by rw [HW5.out.cell]; rfl
            have h2 : w5.cell? ⟨H, 2, none⟩ = some (.bool (!fitsB l p good k)) := by rw [HW5.out.cell]; rfl
            have g0 := hHeld.1
            have g1 := hHeld.2.1
            have g2 := hHeld.2.2.1
            have f0 := HG5.out.frozen 0
            have f1 := HG5.out.frozen 1
            have f2 := HG5.out.frozen 2
            have hxG : ¬ (x.add (i * 2)).block = G := HXG.out
            have k6 : (((w5.setCell ⟨G, 0, none⟩ (.slice A n c)).setCell ⟨G, 1, none⟩ (.int .i64 (readP l p good k))).setCell ⟨G, 2, none⟩ (.bool (!fitsB l p good k))).cell? (x.add (i * 2)) = some (.int .i64 0) := by
              rw [World.cell?_setCell_other _ _ _ _ (fun e => hxG (by have h := congrArg Addr.block e; first | exact h | exact h.symm)), World.cell?_setCell_other _ _ _ _ (fun e => hxG (by have h := congrArg Addr.block e; first | exact h | exact h.symm)), World.cell?_setCell_other _ _ _ _ (fun e => hxG (by have h := congrArg Addr.block e; first | exact h | exact h.symm))]; exact hHeld.2.2.2.1
            have k7 : (((w5.setCell ⟨G, 0, none⟩ (.slice A n c)).setCell ⟨G, 1, none⟩ (.int .i64 (readP l p good k))).setCell ⟨G, 2, none⟩ (.bool (!fitsB l p good k))).cell? ⟨(x.add (i * 2)).block, (x.add (i * 2)).off + 1, none⟩ = some (.int .i64 k) := by
              rw [World.cell?_setCell_other _ _ _ _ (fun e => hxG (by have h := congrArg Addr.block e; first | exact h | exact h.symm)), World.cell?_setCell_other _ _ _ _ (fun e => hxG (by have h := congrArg Addr.block e; first | exact h | exact h.symm)), World.cell?_setCell_other _ _ _ _ (fun e => hxG (by have h := congrArg Addr.block e; first | exact h | exact h.symm))]; exact hHeld.2.2.2.2.1
            clear hHeld
            go_wp2_with fail
            obtain ⟨w6, hw6⟩ : ∃ w6, (((w5.setCell ⟨G, 0, none⟩ (.slice A n c)).setCell ⟨G, 1, none⟩ (.int .i64 (readP l p good k))).setCell ⟨G, 2, none⟩ (.bool (!fitsB l p good k))) = w6 := ⟨_, rfl⟩
            have ho6 : w5.grownBy w6 (some G) := by rw [← hw6]; exact only_set (only_set (only_set (only_refl w5 G) 0 _) 1 _) 2 _
            have HG6 := Lib.hid (show Mem.Blk w6 G 28 #[.slice A n c, .int .i64 (readP l p good k), .bool (!fitsB l p good k)] by rw [← hw6]; simpa using ((HG5.out.stored 0 (.slice A n c)).stored 1 (.int .i64 (readP l p good k))).stored 2 (.bool (!fitsB l p good k)))
            rw [hw6] at k6 k7 ⊢
            have HR6 := Lib.hid (HR5.out.only ho6 hgu)
            have HB6 := Lib.hid (below_of_only (HB.out.trans (HB5.out.mono HB.out.size)) ho6 (by have := HB.out.size; have := HB5.out.size; omega) hGw)
            clear h0 h1 h2 g0 g1 g2 f0 f1 f2 hw6 ho6 HW5 HR5 HG5 hGH hHG hxG k6 k7 hH
            have HC := num_any w6 g A1 c1 l p good HR6.out k
            unfold Read at HC
            have HC2 := Lib.hid HC
            clear HC
            refine HC2.out.mono ?_
            rintro e w7 ⟨rfl, hr7, ho7⟩
            have HR7 := Lib.hid hr7
            have HG7 := Lib.hid (HG6.out.only ho7 (by omega))
            have HB7 := Lib.hid (below_of_only HB6.out ho7 HB6.out.size hg)
            clear hr7 ho7 HG6 HR6 HB6 HC2
            generalize readV false l p good k = z
            generalize readP l p good k = pp at HR7 HG7
            generalize fitsB l p good k = ff at HR7 HG7
            have n1 : w7.cell? ⟨G, 1, none⟩ = some (.int .i64 (pp : Int)) := by rw [HG7.out.cell]; rfl
            have n2 : w7.cell? ⟨G, 2, none⟩ = some (.bool (!ff)) := by rw [HG7.out.cell]; rfl
            have MK7 := Lib.hid (show ∀ w', Below w7.heap.size w7 w' → (w'.cell? ⟨G, 1, none⟩ = some (.int .i64 (pp : Int)) ∧ w'.cell? ⟨G, 2, none⟩ = some (.bool (!ff)) ∧ Below w7.heap.size w7 w') from fun w' hb => ⟨(hb.cell HG7.out.lt).trans n1, (hb.cell HG7.out.lt).trans n2, hb⟩)
            have CAT := Lib.hid (show ∀ w', Below w7.heap.size w7 w' → Calls Try.prog 14 #[.pointer (some ⟨g, 0, none⟩)] w' (fun e w'' => e = .returned (.int .i64 (pp : Int)) ∧ Below w7.heap.size w7 w'') from fun w' hb => (at_any w' g A1 c1 l pp ff (HR7.out.below hb HR7.out.blk.lt)).mono (by rintro e w'' ⟨he, hw⟩; exact ⟨he, by rw [← hw]; exact hb⟩))
            have CLE := Lib.hid (show ∀ w', Below w7.heap.size w7 w' → Calls Try.prog 15 #[.pointer (some ⟨g, 0, none⟩)] w' (fun e w'' => e = .returned (.int .i64 ((n : Int) - pp)) ∧ Below w7.heap.size w7 w'') from fun w' hb => (left_any w' g A1 c1 l pp ff (HR7.out.below hb HR7.out.blk.lt)).mono (by rintro e w'' ⟨he, q, hw⟩; exact ⟨by rw [he, HLL.out], by rw [hw]; exact below_drewN hb q⟩))
            have CBA := Lib.hid (show ∀ w', Below w7.heap.size w7 w' → Calls Try.prog 16 #[.pointer (some ⟨g, 0, none⟩)] w' (fun e w'' => e = .returned (.bool (!ff)) ∧ Below w7.heap.size w7 w'') from fun w' hb => (bad_any w' g A1 c1 l pp ff (HR7.out.below hb HR7.out.blk.lt)).mono (by rintro e w'' ⟨he, hw⟩; exact ⟨he, by rw [← hw]; exact hb⟩))
            have hpn : pp ≤ n := by have := HR7.out.le; have := HLL.out; omega
            clear n1 n2 MK
            go_wp2_with fail
            have hwr : IntKind.i64.wrap ((n : Int) - pp) = (n : Int) - pp := IntWalk.i64_in _ (by omega)
            refine wp_region_noPanic ?_
            refine wp_region_held_drew (S := fun w' => w'.cell? ⟨G, 1, none⟩ = some (.int .i64 (pp : Int)) ∧ w'.cell? ⟨G, 2, none⟩ = some (.bool (!ff)) ∧ Below w7.heap.size w7 w') (by kernel_rfl) (MK7.out _ (Below.refl _ _).drew) (fun hHeld => ?_)
            refine wpAnyH_take (i := 0) rfl (by kernel_rfl) (by kernel_rfl) (by kernel_rfl) (fun _ _ _ h => h) (Or.inl ⟨by rfl, by intro W hSW; (try dsimp only at hSW); go_simp; try (with_reducible rfl)⟩) hHeld ?_
            try simp only [Act.put, List.getElem_toArray, List.getElem_cons_zero, List.getElem_cons_succ, List.setIfInBounds_toArray, List.set_cons_zero, List.set_cons_succ]
            refine wpAnyH_take (i := 2) rfl (by kernel_rfl) (by kernel_rfl) (by kernel_rfl) (fun _ _ _ h => h) (Or.inl ⟨by rfl, by intro W hSW; (try dsimp only at hSW); go_simp; try (with_reducible rfl)⟩) hHeld ?_
            try simp only [Act.put, List.getElem_toArray, List.getElem_cons_zero, List.getElem_cons_succ, List.setIfInBounds_toArray, List.set_cons_zero, List.set_cons_succ]
            refine wpAnyH_take (i := 3) rfl (by kernel_rfl) (by kernel_rfl) (by kernel_rfl) (fun _ _ _ h => h) (Or.inl ⟨by rfl, by intro W hSW; (try dsimp only at hSW); go_simp; try (with_reducible rfl)⟩) hHeld ?_
            try simp only [Act.put, List.getElem_toArray, List.getElem_cons_zero, List.getElem_cons_succ, List.setIfInBounds_toArray, List.set_cons_zero, List.set_cons_succ]
            refine wpAnyH_ready (rs := [1]) (by kernel_rfl) (by simp) ?_
            refine AllReadyH.cons rfl (fun K hK => ?_) AllReadyH.nil
            go_simp
            refine (CAT.out _ hHeld.2.2).mono ?_; rintro e w8 ⟨rfl, qb⟩
            try go_wp2_with fail
            refine hK.out _ _ (MK7.out _ qb) ?_
            clear hK K hHeld
            intro hHeld
            clear qb
            try simp only [Act.put, List.getElem_toArray, List.getElem_cons_zero, List.getElem_cons_succ, List.setIfInBounds_toArray, List.set_cons_zero, List.set_cons_succ]
            refine wpAnyH_take (i := 4) rfl (by kernel_rfl) (by kernel_rfl) (by kernel_rfl) (fun _ _ _ h => h) (Or.inl ⟨by rfl, by intro W hSW; (try dsimp only at hSW); go_simp; try (with_reducible rfl)⟩) hHeld ?_
            try simp only [Act.put, List.getElem_toArray, List.getElem_cons_zero, List.getElem_cons_succ, List.setIfInBounds_toArray, List.set_cons_zero, List.set_cons_succ]
            refine wpAnyH_take (i := 5) rfl (by kernel_rfl) (by kernel_rfl) (by kernel_rfl) (fun _ _ _ h => h) (Or.inl ⟨by rfl, by intro W hSW; (try dsimp only at hSW); go_simp; try (with_reducible rfl)⟩) hHeld ?_
            try simp only [Act.put, List.getElem_toArray, List.getElem_cons_zero, List.getElem_cons_succ, List.setIfInBounds_toArray, List.set_cons_zero, List.set_cons_succ]
            refine wpAnyH_take (i := 6) rfl (by kernel_rfl) (by kernel_rfl) (by kernel_rfl) (fun _ _ _ h => h) (Or.inl ⟨by rfl, by intro W hSW; (try dsimp only at hSW); go_simp; try (with_reducible rfl)⟩) hHeld ?_
            try simp only [Act.put, List.getElem_toArray, List.getElem_cons_zero, List.getElem_cons_succ, List.setIfInBounds_toArray, List.set_cons_zero, List.set_cons_succ]
            refine wpAnyH_take (i := 8) rfl (by kernel_rfl) (by kernel_rfl) (by kernel_rfl) (fun _ _ _ h => h) (Or.inl ⟨by rfl, by intro W hSW; (try dsimp only at hSW); go_simp; try (with_reducible rfl)⟩) hHeld ?_
            try simp only [Act.put, List.getElem_toArray, List.getElem_cons_zero, List.getElem_cons_succ, List.setIfInBounds_toArray, List.set_cons_zero, List.set_cons_succ]
            refine wpAnyH_take (i := 9) rfl (by kernel_rfl) (by kernel_rfl) (by kernel_rfl) (fun _ _ _ h => h) (Or.inl ⟨by rfl, by intro W hSW; (try dsimp only at hSW); go_simp; try (with_reducible rfl)⟩) hHeld ?_
            try simp only [Act.put, List.getElem_toArray, List.getElem_cons_zero, List.getElem_cons_succ, List.setIfInBounds_toArray, List.set_cons_zero, List.set_cons_succ]
            refine wpAnyH_take (i := 10) rfl (by kernel_rfl) (by kernel_rfl) (by kernel_rfl) (fun _ _ _ h => h) (Or.inl ⟨by rfl, by intro W hSW; (try dsimp only at hSW); go_simp; try (with_reducible rfl)⟩) hHeld ?_
            try simp only [Act.put, List.getElem_toArray, List.getElem_cons_zero, List.getElem_cons_succ, List.setIfInBounds_toArray, List.set_cons_zero, List.set_cons_succ]
            refine wpAnyH_take (i := 11) rfl (by kernel_rfl) (by kernel_rfl) (by kernel_rfl) (fun _ _ _ h => h) (Or.inl ⟨by rfl, by intro W hSW; (try dsimp only at hSW); go_simp; try (with_reducible rfl)⟩) hHeld ?_
            try simp only [Act.put, List.getElem_toArray, List.getElem_cons_zero, List.getElem_cons_succ, List.setIfInBounds_toArray, List.set_cons_zero, List.set_cons_succ]
            refine wpAnyH_take (i := 12) rfl (by kernel_rfl) (by kernel_rfl) (by kernel_rfl) (fun _ _ _ h => h) (Or.inl ⟨by rfl, by intro W hSW; (try dsimp only at hSW); go_simp; try (with_reducible rfl)⟩) hHeld ?_
            try simp only [Act.put, List.getElem_toArray, List.getElem_cons_zero, List.getElem_cons_succ, List.setIfInBounds_toArray, List.set_cons_zero, List.set_cons_succ]
            refine wpAnyH_ready (rs := [7]) (by kernel_rfl) (by simp) ?_
            refine AllReadyH.cons rfl (fun K hK => ?_) AllReadyH.nil
            go_simp
            refine (CLE.out _ hHeld.2.2).mono ?_; rintro e w9 ⟨rfl, qb⟩
            try go_wp2_with fail
            refine hK.out _ _ (MK7.out _ qb) ?_
            clear hK K hHeld
            intro hHeld
            clear qb
            try simp only [Act.put, List.getElem_toArray, List.getElem_cons_zero, List.getElem_cons_succ, List.setIfInBounds_toArray, List.set_cons_zero, List.set_cons_succ]
            refine wpAnyH_take (i := 13) rfl (by kernel_rfl) (by kernel_rfl) (by kernel_rfl) (fun _ _ _ h => h) (Or.inl ⟨by rfl, by intro W hSW; (try dsimp only at hSW); go_simp; try (with_reducible rfl)⟩) hHeld ?_
            try simp only [Act.put, List.getElem_toArray, List.getElem_cons_zero, List.getElem_cons_succ, List.setIfInBounds_toArray, List.set_cons_zero, List.set_cons_succ]
            refine wpAnyH_take (i := 14) rfl (by kernel_rfl) (by kernel_rfl) (by kernel_rfl) (fun _ _ _ h => h) (Or.inl ⟨by rfl, by intro W hSW; (try dsimp only at hSW); go_simp; try (with_reducible rfl)⟩) hHeld ?_
            try simp only [Act.put, List.getElem_toArray, List.getElem_cons_zero, List.getElem_cons_succ, List.setIfInBounds_toArray, List.set_cons_zero, List.set_cons_succ]
            refine wpAnyH_take (i := 15) rfl (by kernel_rfl) (by kernel_rfl) (by kernel_rfl) (fun _ _ _ h => h) (Or.inl ⟨by rfl, by intro W hSW; (try dsimp only at hSW); go_simp; try (with_reducible rfl)⟩) hHeld ?_
            try simp only [Act.put, List.getElem_toArray, List.getElem_cons_zero, List.getElem_cons_succ, List.setIfInBounds_toArray, List.set_cons_zero, List.set_cons_succ]
            refine wpAnyH_take (i := 16) rfl (by kernel_rfl) (by kernel_rfl) (by kernel_rfl) (fun _ _ _ h => h) (Or.inl ⟨by rfl, by intro W hSW; (try dsimp only at hSW); go_simp; try (with_reducible rfl)⟩) hHeld ?_
            try simp only [Act.put, List.getElem_toArray, List.getElem_cons_zero, List.getElem_cons_succ, List.setIfInBounds_toArray, List.set_cons_zero, List.set_cons_succ]
            refine wpAnyH_take (i := 18) rfl (by kernel_rfl) (by kernel_rfl) (by kernel_rfl) (fun _ _ _ h => h) (Or.inl ⟨by rfl, by intro W hSW; (try dsimp only at hSW); go_simp; try (with_reducible rfl)⟩) hHeld ?_
            try simp only [Act.put, List.getElem_toArray, List.getElem_cons_zero, List.getElem_cons_succ, List.setIfInBounds_toArray, List.set_cons_zero, List.set_cons_succ]
            refine wpAnyH_take (i := 19) rfl (by kernel_rfl) (by kernel_rfl) (by kernel_rfl) (fun _ _ _ h => h) (Or.inl ⟨by rfl, by intro W hSW; (try dsimp only at hSW); go_simp; try (with_reducible rfl)⟩) hHeld ?_
            try simp only [Act.put, List.getElem_toArray, List.getElem_cons_zero, List.getElem_cons_succ, List.setIfInBounds_toArray, List.set_cons_zero, List.set_cons_succ]
            refine wpAnyH_ready (rs := [17]) (by kernel_rfl) (by simp) ?_
            refine AllReadyH.cons rfl (fun K hK => ?_) AllReadyH.nil
            go_simp
            refine (CBA.out _ hHeld.2.2).mono ?_; rintro e w10 ⟨rfl, qb⟩
            try go_wp2_with fail
            refine hK.out _ _ (MK7.out _ qb) ?_
            clear hK K hHeld
            intro hHeld
            clear qb
            try simp only [Act.put, List.getElem_toArray, List.getElem_cons_zero, List.getElem_cons_succ, List.setIfInBounds_toArray, List.set_cons_zero, List.set_cons_succ]
            refine wpAnyH_take (i := 20) rfl (by kernel_rfl) (by kernel_rfl) (by kernel_rfl) (fun _ _ _ h => h) (Or.inl ⟨by rfl, by intro W hSW; (try dsimp only at hSW); go_simp; try (with_reducible rfl)⟩) hHeld ?_
            try simp only [Act.put, List.getElem_toArray, List.getElem_cons_zero, List.getElem_cons_succ, List.setIfInBounds_toArray, List.set_cons_zero, List.set_cons_succ]
            refine wpAnyH_take (i := 21) rfl (by kernel_rfl) (by kernel_rfl) (by kernel_rfl) (fun _ _ _ h => h) (Or.inl ⟨by rfl, by intro W hSW; (try dsimp only at hSW); go_simp; try (with_reducible rfl)⟩) hHeld ?_
            try simp only [Act.put, List.getElem_toArray, List.getElem_cons_zero, List.getElem_cons_succ, List.setIfInBounds_toArray, List.set_cons_zero, List.set_cons_succ]
            refine wpAnyH_done (by kernel_rfl) ?_ _
            refine NoPanic.normal ?_
            clear hwr
            go_wp2_with fail
            go_roundw
            case rel => exact ⟨i + 1, pp, ff, by omega, by go_num, Lib.hid (HR7.out.below hHeld.2.2 HR7.out.blk.lt), Lib.hid (HG7.out.below hHeld.2.2 HG7.out.lt), Lib.hid (HB7.out.trans (hHeld.2.2.mono HB7.out.size))⟩
            case measure => simp [intOf]; omega
        · by_cases hk1 : kk = 1
          · subst hk1
            have C26 := Lib.hid (show ∀ (w' : World), Below wr.heap.size wr w' → Calls Try.prog 9 #[.agg #[.slice A n c, .int .i64 p, .bool (!good)], .int .i64 k, .bool true] w' fun e w'' => e = .returned (.tuple #[.agg #[.slice A n c, .int .i64 (readP l p good k), .bool (!fitsB l p good k)], .int .i64 (readV true l p good k)]) ∧ Below w'.heap.size w' w'' from fun w' hb => by
              have h := rnum_any w' w.heap.size A c l p good true k HR.out.le (by have := HLL.out; omega) (by rw [HLL.out]; exact HSW.out.below (hb.mono HB.out.size))
              rw [HLL.out] at h
              exact h)
            have MK := Lib.hid (show ∀ w', Below wr.heap.size wr w' → (w'.cell? ⟨G, 0, none⟩ = some (.slice A n c) ∧ w'.cell? ⟨G, 1, none⟩ = some (.int .i64 p) ∧ w'.cell? ⟨G, 2, none⟩ = some (.bool (!good)) ∧ w'.cell? (x.add (i * 2)) = some (.int .i64 1) ∧ w'.cell? ⟨(x.add (i * 2)).block, (x.add (i * 2)).off + 1, none⟩ = some (.int .i64 k) ∧ Below wr.heap.size wr w') from fun w' hb =>
              ⟨(hb.cell HG.out.lt).trans m0, (hb.cell HG.out.lt).trans m1, (hb.cell HG.out.lt).trans m2, (hb.cell (World.block_lt_of_cell? wr _ k0)).trans k0, (hb.cell (World.block_lt_of_cell? wr _ k1')).trans k1', hb⟩)
            go_wp2_with fail
            clear m0 m1 m2 k0 k1'
            refine wp_region_noPanic ?_
            refine wp_region_held_drew (S := fun w' => w'.cell? ⟨G, 0, none⟩ = some (.slice A n c) ∧ w'.cell? ⟨G, 1, none⟩ = some (.int .i64 p) ∧ w'.cell? ⟨G, 2, none⟩ = some (.bool (!good)) ∧ w'.cell? (x.add (i * 2)) = some (.int .i64 1) ∧ w'.cell? ⟨(x.add (i * 2)).block, (x.add (i * 2)).off + 1, none⟩ = some (.int .i64 k) ∧ Below wr.heap.size wr w') (by kernel_rfl) (MK.out _ (Below.refl _ _).drew) (fun hHeld => ?_)
            refine wpAnyH_take (i := 0) rfl (by kernel_rfl) (by kernel_rfl) (by kernel_rfl) (fun _ _ _ h => h) (Or.inl ⟨by rfl, by intro W hSW; (try dsimp only at hSW); go_simp; try (with_reducible rfl)⟩) hHeld ?_
            try simp only [Act.put, List.getElem_toArray, List.getElem_cons_zero, List.getElem_cons_succ, List.setIfInBounds_toArray, List.set_cons_zero, List.set_cons_succ]
            refine wpAnyH_take (i := 1) rfl (by kernel_rfl) (by kernel_rfl) (by kernel_rfl) (fun _ _ _ h => h) (Or.inl ⟨by rfl, by intro W hSW; (try dsimp only at hSW); go_simp; try (with_reducible rfl)⟩) hHeld ?_
            try simp only [Act.put, List.getElem_toArray, List.getElem_cons_zero, List.getElem_cons_succ, List.setIfInBounds_toArray, List.set_cons_zero, List.set_cons_succ]
            refine wpAnyH_take (i := 2) rfl (by kernel_rfl) (by kernel_rfl) (by kernel_rfl) (fun _ _ _ h => h) (Or.inl ⟨by rfl, by intro W hSW; (try dsimp only at hSW); go_simp; try (with_reducible rfl)⟩) hHeld ?_
            try simp only [Act.put, List.getElem_toArray, List.getElem_cons_zero, List.getElem_cons_succ, List.setIfInBounds_toArray, List.set_cons_zero, List.set_cons_succ]
            refine wpAnyH_take (i := 3) rfl (by kernel_rfl) (by kernel_rfl) (by kernel_rfl) (fun _ _ _ h => h) (Or.inl ⟨by rfl, by intro W hSW; (try dsimp only at hSW); go_simp; try (with_reducible rfl)⟩) hHeld ?_
            try simp only [Act.put, List.getElem_toArray, List.getElem_cons_zero, List.getElem_cons_succ, List.setIfInBounds_toArray, List.set_cons_zero, List.set_cons_succ]
            refine wpAnyH_take (i := 4) rfl (by kernel_rfl) (by kernel_rfl) (by kernel_rfl) (fun _ _ _ h => h) (Or.inl ⟨by rfl, by intro W hSW; (try dsimp only at hSW); go_simp; try (with_reducible rfl)⟩) hHeld ?_
            try simp only [Act.put, List.getElem_toArray, List.getElem_cons_zero, List.getElem_cons_succ, List.setIfInBounds_toArray, List.set_cons_zero, List.set_cons_succ]
            refine wpAnyH_take (i := 5) rfl (by kernel_rfl) (by kernel_rfl) (by kernel_rfl) (fun _ _ _ h => h) (Or.inl ⟨by rfl, by intro W hSW; (try dsimp only at hSW); go_simp; try (with_reducible rfl)⟩) hHeld ?_
            try simp only [Act.put, List.getElem_toArray, List.getElem_cons_zero, List.getElem_cons_succ, List.setIfInBounds_toArray, List.set_cons_zero, List.set_cons_succ]
            refine wpAnyH_take (i := 6) rfl (by kernel_rfl) (by kernel_rfl) (by kernel_rfl) (fun _ _ _ h => h) (Or.inl ⟨by rfl, by intro W hSW; (try dsimp only at hSW); go_simp; try (with_reducible rfl)⟩) hHeld ?_
            try simp only [Act.put, List.getElem_toArray, List.getElem_cons_zero, List.getElem_cons_succ, List.setIfInBounds_toArray, List.set_cons_zero, List.set_cons_succ]
            refine wpAnyH_take (i := 7) rfl (by kernel_rfl) (by kernel_rfl) (by kernel_rfl) (fun _ _ _ h => h) (Or.inl ⟨by rfl, by intro W hSW; (try dsimp only at hSW); go_simp; try (with_reducible rfl)⟩) hHeld ?_
            try simp only [Act.put, List.getElem_toArray, List.getElem_cons_zero, List.getElem_cons_succ, List.setIfInBounds_toArray, List.set_cons_zero, List.set_cons_succ]
            refine wpAnyH_take (i := 8) rfl (by kernel_rfl) (by kernel_rfl) (by kernel_rfl) (fun _ _ _ h => h) (Or.inl ⟨by rfl, by intro W hSW; (try dsimp only at hSW); go_simp; try (with_reducible rfl)⟩) hHeld ?_
            try simp only [Act.put, List.getElem_toArray, List.getElem_cons_zero, List.getElem_cons_succ, List.setIfInBounds_toArray, List.set_cons_zero, List.set_cons_succ]
            refine wpAnyH_take (i := 9) rfl (by kernel_rfl) (by kernel_rfl) (by kernel_rfl) (fun _ _ _ h => h) (Or.inl ⟨by rfl, by intro W hSW; (try dsimp only at hSW); go_simp; try (with_reducible rfl)⟩) hHeld ?_
            try simp only [Act.put, List.getElem_toArray, List.getElem_cons_zero, List.getElem_cons_succ, List.setIfInBounds_toArray, List.set_cons_zero, List.set_cons_succ]
            refine wpAnyH_take (i := 10) rfl (by kernel_rfl) (by kernel_rfl) (by kernel_rfl) (fun _ _ _ h => h) (Or.inl ⟨by rfl, by intro W hSW; (try dsimp only at hSW); go_simp; try (with_reducible rfl)⟩) hHeld ?_
            try simp only [Act.put, List.getElem_toArray, List.getElem_cons_zero, List.getElem_cons_succ, List.setIfInBounds_toArray, List.set_cons_zero, List.set_cons_succ]
            refine wpAnyH_take (i := 11) rfl (by kernel_rfl) (by kernel_rfl) (by kernel_rfl) (fun _ _ _ h => h) (Or.inl ⟨by rfl, by intro W hSW; (try dsimp only at hSW); go_simp; try (with_reducible rfl)⟩) hHeld ?_
            try simp only [Act.put, List.getElem_toArray, List.getElem_cons_zero, List.getElem_cons_succ, List.setIfInBounds_toArray, List.set_cons_zero, List.set_cons_succ]
            refine wpAnyH_ready (rs := [12, 16]) (by kernel_rfl) (by simp) ?_
            refine AllReadyH.cons rfl (fun K hK => ?_) (AllReadyH.cons rfl (fun K hK => ?_) AllReadyH.nil)
            · go_simp
              refine (C26.out _ hHeld.2.2.2.2.2).mono ?_
              rintro e w4 ⟨rfl, qb⟩
              try go_wp2_with fail
              refine hK.out _ _ (MK.out _ (hHeld.2.2.2.2.2.trans (qb.mono hHeld.2.2.2.2.2.size))) ?_
              clear hK K hHeld qb
              intro hHeld
              try simp only [Act.put, List.getElem_toArray, List.getElem_cons_zero, List.getElem_cons_succ, List.setIfInBounds_toArray, List.set_cons_zero, List.set_cons_succ]
              refine wpAnyH_take (i := 13) rfl (by kernel_rfl) (by kernel_rfl) (by kernel_rfl) (fun _ _ _ h => h) (Or.inl ⟨by rfl, by intro W hSW; (try dsimp only at hSW); go_simp; try (with_reducible rfl)⟩) hHeld ?_
              try simp only [Act.put, List.getElem_toArray, List.getElem_cons_zero, List.getElem_cons_succ, List.setIfInBounds_toArray, List.set_cons_zero, List.set_cons_succ]
              refine wpAnyH_take (i := 14) rfl (by kernel_rfl) (by kernel_rfl) (by kernel_rfl) (fun _ _ _ h => h) (Or.inl ⟨by rfl, by intro W hSW; (try dsimp only at hSW); go_simp; try (with_reducible rfl)⟩) hHeld ?_
              try simp only [Act.put, List.getElem_toArray, List.getElem_cons_zero, List.getElem_cons_succ, List.setIfInBounds_toArray, List.set_cons_zero, List.set_cons_succ]
              refine wpAnyH_take (i := 15) rfl (by kernel_rfl) (by kernel_rfl) (by kernel_rfl) (fun _ _ _ h => h) (Or.inl ⟨by rfl, by intro W hSW; (try dsimp only at hSW); go_simp; try (with_reducible rfl)⟩) hHeld ?_
              try simp only [Act.put, List.getElem_toArray, List.getElem_cons_zero, List.getElem_cons_succ, List.setIfInBounds_toArray, List.set_cons_zero, List.set_cons_succ]
              refine wpAnyH_ready (rs := [16]) (by kernel_rfl) (by simp) ?_
              refine AllReadyH.cons rfl (fun K hK => ?_) AllReadyH.nil
              go_simp
              refine hK.out _ _ (MK.out _ (hHeld.2.2.2.2.2.alloc hHeld.2.2.2.2.2.size _)) ?_
              clear hK K
              intro hHeld2
              try simp only [Act.put, List.getElem_toArray, List.getElem_cons_zero, List.getElem_cons_succ, List.setIfInBounds_toArray, List.set_cons_zero, List.set_cons_succ]
              have HH := Lib.hid (Mem.Blk.new w4 28 #[.slice none 0 0, .int .i64 0, .bool false])
              have HBW := Lib.hid hHeld2.2.2.2.2.2
              have HLT := Lib.hid (show wr.heap.size ≤ w4.heap.size from hHeld.2.2.2.2.2.size)
              refine wpAnyH_ready (rs := [17]) (by kernel_rfl) (by simp) ?_
              refine AllReadyH.cons rfl (fun K hK => ?_) AllReadyH.nil
              go_simp
              obtain ⟨w5, hw5⟩ : ∃ w5, w4.alloc (.cells #[.slice A n c, .int .i64 (readP l p good k), .bool (!fitsB l p good k)] 28) = w5 := ⟨_, rfl⟩
              rw [hw5]
              have HW5 := Lib.hid (show Mem.Blk w5 w4.heap.size 28 #[.slice A n c, .int .i64 (readP l p good k), .bool (!fitsB l p good k)] by rw [← hw5]; exact Mem.Blk.new w4 28 #[.slice A n c, .int .i64 (readP l p good k), .bool (!fitsB l p good k)])
              have HB5 := Lib.hid (show Below wr.heap.size wr w5 by rw [← hw5]; exact hHeld.2.2.2.2.2.alloc hHeld.2.2.2.2.2.size _)
              have hH := HLT.out
              obtain ⟨H, hHe⟩ : ∃ H, w4.heap.size = H := ⟨_, rfl⟩
              rw [hHe] at HW5 hH ⊢
              refine hK.out _ _ (MK.out _ HB5.out) ?_
              clear hK K hHeld hHeld2 HH HBW HLT hw5 hHe
              intro hHeld
              try simp only [Act.put, List.getElem_toArray, List.getElem_cons_zero, List.getElem_cons_succ, List.setIfInBounds_toArray, List.set_cons_zero, List.set_cons_succ]
              refine wpAnyH_take (i := 18) rfl (by kernel_rfl) (by kernel_rfl) (by kernel_rfl) (fun _ _ _ h => h) (Or.inl ⟨by rfl, by intro W hSW; (try dsimp only at hSW); go_simp; try (with_reducible rfl)⟩) hHeld ?_
              try simp only [Act.put, List.getElem_toArray, List.getElem_cons_zero, List.getElem_cons_succ, List.setIfInBounds_toArray, List.set_cons_zero, List.set_cons_succ]
              refine wpAnyH_done (by kernel_rfl) ?_ _
              refine NoPanic.normal ?_
              have HR5 := Lib.hid (HR.out.below HB5.out HR.out.blk.lt)
              have HG5 := Lib.hid (HG.out.below HB5.out HG.out.lt)
              have hGlt := HG.out.lt
              have hGH : ¬ H = G := by omega
              have hHG : ¬ G = H := by omega
              have h0 : w5.cell? ⟨H, 0, none⟩ = some (.slice A n c) := by rw [HW5.out.cell]; rfl
              have h1 : w5.cell? ⟨H, 1, none⟩ = some (.int .i64 (readP l p good k)) := by rw [HW5.out.cell]; rfl
              have h2 : w5.cell? ⟨H, 2, none⟩ = some (.bool (!fitsB l p good k)) := by rw [HW5.out.cell]; rfl
              have g0 := hHeld.1
              have g1 := hHeld.2.1
              have g2 := hHeld.2.2.1
              have f0 := HG5.out.frozen 0
              have f1 := HG5.out.frozen 1
              have f2 := HG5.out.frozen 2
              have hxG : ¬ (x.add (i * 2)).block = G := HXG.out
              have k6 : (((w5.setCell ⟨G, 0, none⟩ (.slice A n c)).setCell ⟨G, 1, none⟩ (.int .i64 (readP l p good k))).setCell ⟨G, 2, none⟩ (.bool (!fitsB l p good k))).cell? (x.add (i * 2)) = some (.int .i64 1) := by
                rw [World.cell?_setCell_other _ _ _ _ (fun e => hxG (by have h := congrArg Addr.block e; first | exact h | exact h.symm)), World.cell?_setCell_other _ _ _ _ (fun e => hxG (by have h := congrArg Addr.block e; first | exact h | exact h.symm)), World.cell?_setCell_other _ _ _ _ (fun e => hxG (by have h := congrArg Addr.block e; first | exact h | exact h.symm))]; exact hHeld.2.2.2.1
              have k7 : (((w5.setCell ⟨G, 0, none⟩ (.slice A n c)).setCell ⟨G, 1, none⟩ (.int .i64 (readP l p good k))).setCell ⟨G, 2, none⟩ (.bool (!fitsB l p good k))).cell? ⟨(x.add (i * 2)).block, (x.add (i * 2)).off + 1, none⟩ = some (.int .i64 k) := by
                rw [World.cell?_setCell_other _ _ _ _ (fun e => hxG (by have h := congrArg Addr.block e; first | exact h | exact h.symm)), World.cell?_setCell_other _ _ _ _ (fun e => hxG (by have h := congrArg Addr.block e; first | exact h | exact h.symm)), World.cell?_setCell_other _ _ _ _ (fun e => hxG (by have h := congrArg Addr.block e; first | exact h | exact h.symm))]; exact hHeld.2.2.2.2.1
              clear hHeld
              go_wp2_with fail
              obtain ⟨w6, hw6⟩ : ∃ w6, (((w5.setCell ⟨G, 0, none⟩ (.slice A n c)).setCell ⟨G, 1, none⟩ (.int .i64 (readP l p good k))).setCell ⟨G, 2, none⟩ (.bool (!fitsB l p good k))) = w6 := ⟨_, rfl⟩
              have ho6 : w5.grownBy w6 (some G) := by rw [← hw6]; exact only_set (only_set (only_set (only_refl w5 G) 0 _) 1 _) 2 _
              have HG6 := Lib.hid (show Mem.Blk w6 G 28 #[.slice A n c, .int .i64 (readP l p good k), .bool (!fitsB l p good k)] by rw [← hw6]; simpa using ((HG5.out.stored 0 (.slice A n c)).stored 1 (.int .i64 (readP l p good k))).stored 2 (.bool (!fitsB l p good k)))
              rw [hw6] at k6 k7 ⊢
              have HR6 := Lib.hid (HR5.out.only ho6 hgu)
              have HB6 := Lib.hid (below_of_only (HB.out.trans (HB5.out.mono HB.out.size)) ho6 (by have := HB.out.size; have := HB5.out.size; omega) hGw)
              clear h0 h1 h2 g0 g1 g2 f0 f1 f2 hw6 ho6 HW5 HR5 HG5 hGH hHG hxG k6 k7 hH
              have HC := signed_any w6 g A1 c1 l p good HR6.out k
              unfold Read at HC
              have HC2 := Lib.hid HC
              clear HC
              refine HC2.out.mono ?_
              rintro e w7 ⟨rfl, hr7, ho7⟩
              have HR7 := Lib.hid hr7
              have HG7 := Lib.hid (HG6.out.only ho7 (by omega))
              have HB7 := Lib.hid (below_of_only HB6.out ho7 HB6.out.size hg)
              clear hr7 ho7 HG6 HR6 HB6 HC2
              generalize readV true l p good k = z
              generalize readP l p good k = pp at HR7 HG7
              generalize fitsB l p good k = ff at HR7 HG7
              have n1 : w7.cell? ⟨G, 1, none⟩ = some (.int .i64 (pp : Int)) := by rw [HG7.out.cell]; rfl
              have n2 : w7.cell? ⟨G, 2, none⟩ = some (.bool (!ff)) := by rw [HG7.out.cell]; rfl
              have MK7 := Lib.hid (show ∀ w', Below w7.heap.size w7 w' → (w'.cell? ⟨G, 1, none⟩ = some (.int .i64 (pp : Int)) ∧ w'.cell? ⟨G, 2, none⟩ = some (.bool (!ff)) ∧ Below w7.heap.size w7 w') from fun w' hb => ⟨(hb.cell HG7.out.lt).trans n1, (hb.cell HG7.out.lt).trans n2, hb⟩)
              have CAT := Lib.hid (show ∀ w', Below w7.heap.size w7 w' → Calls Try.prog 14 #[.pointer (some ⟨g, 0, none⟩)] w' (fun e w'' => e = .returned (.int .i64 (pp : Int)) ∧ Below w7.heap.size w7 w'') from fun w' hb => (at_any w' g A1 c1 l pp ff (HR7.out.below hb HR7.out.blk.lt)).mono (by rintro e w'' ⟨he, hw⟩; exact ⟨he, by rw [← hw]; exact hb⟩))
              have CLE := Lib.hid (show ∀ w', Below w7.heap.size w7 w' → Calls Try.prog 15 #[.pointer (some ⟨g, 0, none⟩)] w' (fun e w'' => e = .returned (.int .i64 ((n : Int) - pp)) ∧ Below w7.heap.size w7 w'') from fun w' hb => (left_any w' g A1 c1 l pp ff (HR7.out.below hb HR7.out.blk.lt)).mono (by rintro e w'' ⟨he, q, hw⟩; exact ⟨by rw [he, HLL.out], by rw [hw]; exact below_drewN hb q⟩))
              have CBA := Lib.hid (show ∀ w', Below w7.heap.size w7 w' → Calls Try.prog 16 #[.pointer (some ⟨g, 0, none⟩)] w' (fun e w'' => e = .returned (.bool (!ff)) ∧ Below w7.heap.size w7 w'') from fun w' hb => (bad_any w' g A1 c1 l pp ff (HR7.out.below hb HR7.out.blk.lt)).mono (by rintro e w'' ⟨he, hw⟩; exact ⟨he, by rw [← hw]; exact hb⟩))
              have hpn : pp ≤ n := by have := HR7.out.le; have := HLL.out; omega
              clear n1 n2 MK
              go_wp2_with fail
              have hwr : IntKind.i64.wrap ((n : Int) - pp) = (n : Int) - pp := IntWalk.i64_in _ (by omega)
              refine wp_region_noPanic ?_
              refine wp_region_held_drew (S := fun w' => w'.cell? ⟨G, 1, none⟩ = some (.int .i64 (pp : Int)) ∧ w'.cell? ⟨G, 2, none⟩ = some (.bool (!ff)) ∧ Below w7.heap.size w7 w') (by kernel_rfl) (MK7.out _ (Below.refl _ _).drew) (fun hHeld => ?_)
              refine wpAnyH_take (i := 0) rfl (by kernel_rfl) (by kernel_rfl) (by kernel_rfl) (fun _ _ _ h => h) (Or.inl ⟨by rfl, by intro W hSW; (try dsimp only at hSW); go_simp; try (with_reducible rfl)⟩) hHeld ?_
              try simp only [Act.put, List.getElem_toArray, List.getElem_cons_zero, List.getElem_cons_succ, List.setIfInBounds_toArray, List.set_cons_zero, List.set_cons_succ]
              refine wpAnyH_take (i := 2) rfl (by kernel_rfl) (by kernel_rfl) (by kernel_rfl) (fun _ _ _ h => h) (Or.inl ⟨by rfl, by intro W hSW; (try dsimp only at hSW); go_simp; try (with_reducible rfl)⟩) hHeld ?_
              try simp only [Act.put, List.getElem_toArray, List.getElem_cons_zero, List.getElem_cons_succ, List.setIfInBounds_toArray, List.set_cons_zero, List.set_cons_succ]
              refine wpAnyH_take (i := 3) rfl (by kernel_rfl) (by kernel_rfl) (by kernel_rfl) (fun _ _ _ h => h) (Or.inl ⟨by rfl, by intro W hSW; (try dsimp only at hSW); go_simp; try (with_reducible rfl)⟩) hHeld ?_
              try simp only [Act.put, List.getElem_toArray, List.getElem_cons_zero, List.getElem_cons_succ, List.setIfInBounds_toArray, List.set_cons_zero, List.set_cons_succ]
              refine wpAnyH_ready (rs := [1]) (by kernel_rfl) (by simp) ?_
              refine AllReadyH.cons rfl (fun K hK => ?_) AllReadyH.nil
              go_simp
              refine (CAT.out _ hHeld.2.2).mono ?_; rintro e w8 ⟨rfl, qb⟩
              try go_wp2_with fail
              refine hK.out _ _ (MK7.out _ qb) ?_
              clear hK K hHeld
              intro hHeld
              clear qb
              try simp only [Act.put, List.getElem_toArray, List.getElem_cons_zero, List.getElem_cons_succ, List.setIfInBounds_toArray, List.set_cons_zero, List.set_cons_succ]
              refine wpAnyH_take (i := 4) rfl (by kernel_rfl) (by kernel_rfl) (by kernel_rfl) (fun _ _ _ h => h) (Or.inl ⟨by rfl, by intro W hSW; (try dsimp only at hSW); go_simp; try (with_reducible rfl)⟩) hHeld ?_
              try simp only [Act.put, List.getElem_toArray, List.getElem_cons_zero, List.getElem_cons_succ, List.setIfInBounds_toArray, List.set_cons_zero, List.set_cons_succ]
              refine wpAnyH_take (i := 5) rfl (by kernel_rfl) (by kernel_rfl) (by kernel_rfl) (fun _ _ _ h => h) (Or.inl ⟨by rfl, by intro W hSW; (try dsimp only at hSW); go_simp; try (with_reducible rfl)⟩) hHeld ?_
              try simp only [Act.put, List.getElem_toArray, List.getElem_cons_zero, List.getElem_cons_succ, List.setIfInBounds_toArray, List.set_cons_zero, List.set_cons_succ]
              refine wpAnyH_take (i := 6) rfl (by kernel_rfl) (by kernel_rfl) (by kernel_rfl) (fun _ _ _ h => h) (Or.inl ⟨by rfl, by intro W hSW; (try dsimp only at hSW); go_simp; try (with_reducible rfl)⟩) hHeld ?_
              try simp only [Act.put, List.getElem_toArray, List.getElem_cons_zero, List.getElem_cons_succ, List.setIfInBounds_toArray, List.set_cons_zero, List.set_cons_succ]
              refine wpAnyH_take (i := 8) rfl (by kernel_rfl) (by kernel_rfl) (by kernel_rfl) (fun _ _ _ h => h) (Or.inl ⟨by rfl, by intro W hSW; (try dsimp only at hSW); go_simp; try (with_reducible rfl)⟩) hHeld ?_
              try simp only [Act.put, List.getElem_toArray, List.getElem_cons_zero, List.getElem_cons_succ, List.setIfInBounds_toArray, List.set_cons_zero, List.set_cons_succ]
              refine wpAnyH_take (i := 9) rfl (by kernel_rfl) (by kernel_rfl) (by kernel_rfl) (fun _ _ _ h => h) (Or.inl ⟨by rfl, by intro W hSW; (try dsimp only at hSW); go_simp; try (with_reducible rfl)⟩) hHeld ?_
              try simp only [Act.put, List.getElem_toArray, List.getElem_cons_zero, List.getElem_cons_succ, List.setIfInBounds_toArray, List.set_cons_zero, List.set_cons_succ]
              refine wpAnyH_take (i := 10) rfl (by kernel_rfl) (by kernel_rfl) (by kernel_rfl) (fun _ _ _ h => h) (Or.inl ⟨by rfl, by intro W hSW; (try dsimp only at hSW); go_simp; try (with_reducible rfl)⟩) hHeld ?_
              try simp only [Act.put, List.getElem_toArray, List.getElem_cons_zero, List.getElem_cons_succ, List.setIfInBounds_toArray, List.set_cons_zero, List.set_cons_succ]
              refine wpAnyH_take (i := 11) rfl (by kernel_rfl) (by kernel_rfl) (by kernel_rfl) (fun _ _ _ h => h) (Or.inl ⟨by rfl, by intro W hSW; (try dsimp only at hSW); go_simp; try (with_reducible rfl)⟩) hHeld ?_
              try simp only [Act.put, List.getElem_toArray, List.getElem_cons_zero, List.getElem_cons_succ, List.setIfInBounds_toArray, List.set_cons_zero, List.set_cons_succ]
              refine wpAnyH_take (i := 12) rfl (by kernel_rfl) (by kernel_rfl) (by kernel_rfl) (fun _ _ _ h => h) (Or.inl ⟨by rfl, by intro W hSW; (try dsimp only at hSW); go_simp; try (with_reducible rfl)⟩) hHeld ?_
              try simp only [Act.put, List.getElem_toArray, List.getElem_cons_zero, List.getElem_cons_succ, List.setIfInBounds_toArray, List.set_cons_zero, List.set_cons_succ]
              refine wpAnyH_ready (rs := [7]) (by kernel_rfl) (by simp) ?_
              refine AllReadyH.cons rfl (fun K hK => ?_) AllReadyH.nil
              go_simp
              refine (CLE.out _ hHeld.2.2).mono ?_; rintro e w9 ⟨rfl, qb⟩
              try go_wp2_with fail
              refine hK.out _ _ (MK7.out _ qb) ?_
              clear hK K hHeld
              intro hHeld
              clear qb
              try simp only [Act.put, List.getElem_toArray, List.getElem_cons_zero, List.getElem_cons_succ, List.setIfInBounds_toArray, List.set_cons_zero, List.set_cons_succ]
              refine wpAnyH_take (i := 13) rfl (by kernel_rfl) (by kernel_rfl) (by kernel_rfl) (fun _ _ _ h => h) (Or.inl ⟨by rfl, by intro W hSW; (try dsimp only at hSW); go_simp; try (with_reducible rfl)⟩) hHeld ?_
              try simp only [Act.put, List.getElem_toArray, List.getElem_cons_zero, List.getElem_cons_succ, List.setIfInBounds_toArray, List.set_cons_zero, List.set_cons_succ]
              refine wpAnyH_take (i := 14) rfl (by kernel_rfl) (by kernel_rfl) (by kernel_rfl) (fun _ _ _ h => h) (Or.inl ⟨by rfl, by intro W hSW; (try dsimp only at hSW); go_simp; try (with_reducible rfl)⟩) hHeld ?_
              try simp only [Act.put, List.getElem_toArray, List.getElem_cons_zero, List.getElem_cons_succ, List.setIfInBounds_toArray, List.set_cons_zero, List.set_cons_succ]
              refine wpAnyH_take (i := 15) rfl (by kernel_rfl) (by kernel_rfl) (by kernel_rfl) (fun _ _ _ h => h) (Or.inl ⟨by rfl, by intro W hSW; (try dsimp only at hSW); go_simp; try (with_reducible rfl)⟩) hHeld ?_
              try simp only [Act.put, List.getElem_toArray, List.getElem_cons_zero, List.getElem_cons_succ, List.setIfInBounds_toArray, List.set_cons_zero, List.set_cons_succ]
              refine wpAnyH_take (i := 16) rfl (by kernel_rfl) (by kernel_rfl) (by kernel_rfl) (fun _ _ _ h => h) (Or.inl ⟨by rfl, by intro W hSW; (try dsimp only at hSW); go_simp; try (with_reducible rfl)⟩) hHeld ?_
              try simp only [Act.put, List.getElem_toArray, List.getElem_cons_zero, List.getElem_cons_succ, List.setIfInBounds_toArray, List.set_cons_zero, List.set_cons_succ]
              refine wpAnyH_take (i := 18) rfl (by kernel_rfl) (by kernel_rfl) (by kernel_rfl) (fun _ _ _ h => h) (Or.inl ⟨by rfl, by intro W hSW; (try dsimp only at hSW); go_simp; try (with_reducible rfl)⟩) hHeld ?_
              try simp only [Act.put, List.getElem_toArray, List.getElem_cons_zero, List.getElem_cons_succ, List.setIfInBounds_toArray, List.set_cons_zero, List.set_cons_succ]
              refine wpAnyH_take (i := 19) rfl (by kernel_rfl) (by kernel_rfl) (by kernel_rfl) (fun _ _ _ h => h) (Or.inl ⟨by rfl, by intro W hSW; (try dsimp only at hSW); go_simp; try (with_reducible rfl)⟩) hHeld ?_
              try simp only [Act.put, List.getElem_toArray, List.getElem_cons_zero, List.getElem_cons_succ, List.setIfInBounds_toArray, List.set_cons_zero, List.set_cons_succ]
              refine wpAnyH_ready (rs := [17]) (by kernel_rfl) (by simp) ?_
              refine AllReadyH.cons rfl (fun K hK => ?_) AllReadyH.nil
              go_simp
              refine (CBA.out _ hHeld.2.2).mono ?_; rintro e w10 ⟨rfl, qb⟩
              try go_wp2_with fail
              refine hK.out _ _ (MK7.out _ qb) ?_
              clear hK K hHeld
              intro hHeld
              clear qb
              try simp only [Act.put, List.getElem_toArray, List.getElem_cons_zero, List.getElem_cons_succ, List.setIfInBounds_toArray, List.set_cons_zero, List.set_cons_succ]
              refine wpAnyH_take (i := 20) rfl (by kernel_rfl) (by kernel_rfl) (by kernel_rfl) (fun _ _ _ h => h) (Or.inl ⟨by rfl, by intro W hSW; (try dsimp only at hSW); go_simp; try (with_reducible rfl)⟩) hHeld ?_
              try simp only [Act.put, List.getElem_toArray, List.getElem_cons_zero, List.getElem_cons_succ, List.setIfInBounds_toArray, List.set_cons_zero, List.set_cons_succ]
              refine wpAnyH_take (i := 21) rfl (by kernel_rfl) (by kernel_rfl) (by kernel_rfl) (fun _ _ _ h => h) (Or.inl ⟨by rfl, by intro W hSW; (try dsimp only at hSW); go_simp; try (with_reducible rfl)⟩) hHeld ?_
              try simp only [Act.put, List.getElem_toArray, List.getElem_cons_zero, List.getElem_cons_succ, List.setIfInBounds_toArray, List.set_cons_zero, List.set_cons_succ]
              refine wpAnyH_done (by kernel_rfl) ?_ _
              refine NoPanic.normal ?_
              clear hwr
              go_wp2_with fail
              go_roundw
              case rel => exact ⟨i + 1, pp, ff, by omega, by go_num, Lib.hid (HR7.out.below hHeld.2.2 HR7.out.blk.lt), Lib.hid (HG7.out.below hHeld.2.2 HG7.out.lt), Lib.hid (HB7.out.trans (hHeld.2.2.mono HB7.out.size))⟩
              case measure => simp [intOf]; omega
            · go_simp
              refine hK.out _ _ (MK.out _ (hHeld.2.2.2.2.2.alloc hHeld.2.2.2.2.2.size _)) ?_
              clear hK K hHeld
              intro hHeld
              try simp only [Act.put, List.getElem_toArray, List.getElem_cons_zero, List.getElem_cons_succ, List.setIfInBounds_toArray, List.set_cons_zero, List.set_cons_succ]
              have HBa := Lib.hid (hHeld.2.2.2.2.2)
              refine wpAnyH_ready (rs := [12]) (by kernel_rfl) (by simp) ?_
              refine AllReadyH.cons rfl (fun K hK => ?_) AllReadyH.nil
              go_simp
              refine (C26.out _ hHeld.2.2.2.2.2).mono ?_
              rintro e w4 ⟨rfl, qb⟩
              have HH := Lib.hid ((show Mem.Blk ((wr.alloc (.cells #[.slice none 0 0, .int .i64 0, .bool false] 28)).drew) wr.heap.size 28 #[.slice none 0 0, .int .i64 0, .bool false] from Mem.Blk.new wr 28 _).below qb (by show wr.heap.size < (wr.heap.push _).size; simp))
              have HQB := Lib.hid qb
              try go_wp2_with fail
              refine hK.out _ _ (MK.out _ (hHeld.2.2.2.2.2.trans (qb.mono hHeld.2.2.2.2.2.size))) ?_
              clear hK K hHeld qb
              intro hHeld
              try simp only [Act.put, List.getElem_toArray, List.getElem_cons_zero, List.getElem_cons_succ, List.setIfInBounds_toArray, List.set_cons_zero, List.set_cons_succ]
              refine wpAnyH_take (i := 13) rfl (by kernel_rfl) (by kernel_rfl) (by kernel_rfl) (fun _ _ _ h => h) (Or.inl ⟨by rfl, by intro W hSW; (try dsimp only at hSW); go_simp; try (with_reducible rfl)⟩) hHeld ?_
              try simp only [Act.put, List.getElem_toArray, List.getElem_cons_zero, List.getElem_cons_succ, List.setIfInBounds_toArray, List.set_cons_zero, List.set_cons_succ]
              refine wpAnyH_take (i := 14) rfl (by kernel_rfl) (by kernel_rfl) (by kernel_rfl) (fun _ _ _ h => h) (Or.inl ⟨by rfl, by intro W hSW; (try dsimp only at hSW); go_simp; try (with_reducible rfl)⟩) hHeld ?_
              try simp only [Act.put, List.getElem_toArray, List.getElem_cons_zero, List.getElem_cons_succ, List.setIfInBounds_toArray, List.set_cons_zero, List.set_cons_succ]
              refine wpAnyH_take (i := 15) rfl (by kernel_rfl) (by kernel_rfl) (by kernel_rfl) (fun _ _ _ h => h) (Or.inl ⟨by rfl, by intro W hSW; (try dsimp only at hSW); go_simp; try (with_reducible rfl)⟩) hHeld ?_
              try simp only [Act.put, List.getElem_toArray, List.getElem_cons_zero, List.getElem_cons_succ, List.setIfInBounds_toArray, List.set_cons_zero, List.set_cons_succ]
              have f0 := HH.out.frozen 0
              have f1 := HH.out.frozen 1
              have f2 := HH.out.frozen 2
              have c0 : w4.cell? ⟨wr.heap.size, 0, none⟩ = some (.slice none 0 0) := by rw [HH.out.cell]; rfl
              have c1 : w4.cell? ⟨wr.heap.size, 1, none⟩ = some (.int .i64 0) := by rw [HH.out.cell]; rfl
              have c2 : w4.cell? ⟨wr.heap.size, 2, none⟩ = some (.bool false) := by rw [HH.out.cell]; rfl
              refine wpAnyH_ready (rs := [17]) (by kernel_rfl) (by simp) ?_
              refine AllReadyH.cons rfl (fun K hK => ?_) AllReadyH.nil
              go_simp
              obtain ⟨w5, hw5⟩ : ∃ w5, ((w4.setCell ⟨wr.heap.size, 0, none⟩ (.slice A n c)).setCell ⟨wr.heap.size, 1, none⟩ (.int .i64 (readP l p good k))).setCell ⟨wr.heap.size, 2, none⟩ (.bool (!fitsB l p good k)) = w5 := ⟨_, rfl⟩
              rw [hw5]
              have HW5 := Lib.hid (show Mem.Blk w5 wr.heap.size 28 #[.slice A n c, .int .i64 (readP l p good k), .bool (!fitsB l p good k)] by rw [← hw5]; simpa using ((HH.out.stored 0 (.slice A n c)).stored 1 (.int .i64 (readP l p good k))).stored 2 (.bool (!fitsB l p good k)))
              have HB5 := Lib.hid (show Below wr.heap.size wr w5 by rw [← hw5]; exact ((hHeld.2.2.2.2.2.setCell (p := ⟨wr.heap.size, 0, none⟩) (Nat.le_refl _) _).setCell (p := ⟨wr.heap.size, 1, none⟩) (Nat.le_refl _) _).setCell (p := ⟨wr.heap.size, 2, none⟩) (Nat.le_refl _) _)
              have hH := Nat.le_refl wr.heap.size
              obtain ⟨H, hHe⟩ : ∃ H, wr.heap.size = H := ⟨_, rfl⟩
              rw (occs := .pos [2]) [hHe] at hH
              rw [hHe] at HW5
              simp only [hHe]
              have hH2 : wr.heap.size ≤ H := by omega
              clear hH
              have hH := hH2
              refine hK.out _ _ (MK.out _ HB5.out) ?_
              clear hK K hHeld HH HBa HQB hw5 hHe f0 f1 f2 c0 c1 c2 hH2
              intro hHeld
              try simp only [Act.put, List.getElem_toArray, List.getElem_cons_zero, List.getElem_cons_succ, List.setIfInBounds_toArray, List.set_cons_zero, List.set_cons_succ]
              refine wpAnyH_take (i := 18) rfl (by kernel_rfl) (by kernel_rfl) (by kernel_rfl) (fun _ _ _ h => h) (Or.inl ⟨by rfl, by intro W hSW; (try dsimp only at hSW); go_simp; try (with_reducible rfl)⟩) hHeld ?_
              try simp only [Act.put, List.getElem_toArray, List.getElem_cons_zero, List.getElem_cons_succ, List.setIfInBounds_toArray, List.set_cons_zero, List.set_cons_succ]
              refine wpAnyH_done (by kernel_rfl) ?_ _
              refine NoPanic.normal ?_
              have HR5 := Lib.hid (HR.out.below HB5.out HR.out.blk.lt)
              have HG5 := Lib.hid (HG.out.below HB5.out HG.out.lt)
              have hGlt := HG.out.lt
              have hGH : ¬ H = G := by omega
              have hHG : ¬ G = H := by omega
              have h0 : w5.cell? ⟨H, 0, none⟩ = some (.slice A n c) := by rw [HW5.out.cell]; rfl
              have h1 : w5.cell? ⟨H, 1, none⟩ = some (.int .i64 (readP l p good k)) := by rw [HW5.out.cell]; rfl
              have h2 : w5.cell? ⟨H, 2, none⟩ = some (.bool (!fitsB l p good k)) := by rw [HW5.out.cell]; rfl
              have g0 := hHeld.1
              have g1 := hHeld.2.1
              have g2 := hHeld.2.2.1
              have f0 := HG5.out.frozen 0
              have f1 := HG5.out.frozen 1
              have f2 := HG5.out.frozen 2
              have hxG : ¬ (x.add (i * 2)).block = G := HXG.out
              have k6 : (((w5.setCell ⟨G, 0, none⟩ (.slice A n c)).setCell ⟨G, 1, none⟩ (.int .i64 (readP l p good k))).setCell ⟨G, 2, none⟩ (.bool (!fitsB l p good k))).cell? (x.add (i * 2)) = some (.int .i64 1) := by
                rw [World.cell?_setCell_other _ _ _ _ (fun e => hxG (by have h := congrArg Addr.block e; first | exact h | exact h.symm)), World.cell?_setCell_other _ _ _ _ (fun e => hxG (by have h := congrArg Addr.block e; first | exact h | exact h.symm)), World.cell?_setCell_other _ _ _ _ (fun e => hxG (by have h := congrArg Addr.block e; first | exact h | exact h.symm))]; exact hHeld.2.2.2.1
              have k7 : (((w5.setCell ⟨G, 0, none⟩ (.slice A n c)).setCell ⟨G, 1, none⟩ (.int .i64 (readP l p good k))).setCell ⟨G, 2, none⟩ (.bool (!fitsB l p good k))).cell? ⟨(x.add (i * 2)).block, (x.add (i * 2)).off + 1, none⟩ = some (.int .i64 k) := by
                rw [World.cell?_setCell_other _ _ _ _ (fun e => hxG (by have h := congrArg Addr.block e; first | exact h | exact h.symm)), World.cell?_setCell_other _ _ _ _ (fun e => hxG (by have h := congrArg Addr.block e; first | exact h | exact h.symm)), World.cell?_setCell_other _ _ _ _ (fun e => hxG (by have h := congrArg Addr.block e; first | exact h | exact h.symm))]; exact hHeld.2.2.2.2.1
              clear hHeld
              go_wp2_with fail
              obtain ⟨w6, hw6⟩ : ∃ w6, (((w5.setCell ⟨G, 0, none⟩ (.slice A n c)).setCell ⟨G, 1, none⟩ (.int .i64 (readP l p good k))).setCell ⟨G, 2, none⟩ (.bool (!fitsB l p good k))) = w6 := ⟨_, rfl⟩
              have ho6 : w5.grownBy w6 (some G) := by rw [← hw6]; exact only_set (only_set (only_set (only_refl w5 G) 0 _) 1 _) 2 _
              have HG6 := Lib.hid (show Mem.Blk w6 G 28 #[.slice A n c, .int .i64 (readP l p good k), .bool (!fitsB l p good k)] by rw [← hw6]; simpa using ((HG5.out.stored 0 (.slice A n c)).stored 1 (.int .i64 (readP l p good k))).stored 2 (.bool (!fitsB l p good k)))
              rw [hw6] at k6 k7 ⊢
              have HR6 := Lib.hid (HR5.out.only ho6 hgu)
              have HB6 := Lib.hid (below_of_only (HB.out.trans (HB5.out.mono HB.out.size)) ho6 (by have := HB.out.size; have := HB5.out.size; omega) hGw)
              clear h0 h1 h2 g0 g1 g2 f0 f1 f2 hw6 ho6 HW5 HR5 HG5 hGH hHG hxG k6 k7 hH
              have HC := signed_any w6 g A1 c1 l p good HR6.out k
              unfold Read at HC
              have HC2 := Lib.hid HC
              clear HC
              refine HC2.out.mono ?_
              rintro e w7 ⟨rfl, hr7, ho7⟩
              have HR7 := Lib.hid hr7
              have HG7 := Lib.hid (HG6.out.only ho7 (by omega))
              have HB7 := Lib.hid (below_of_only HB6.out ho7 HB6.out.size hg)
              clear hr7 ho7 HG6 HR6 HB6 HC2
              generalize readV true l p good k = z
              generalize readP l p good k = pp at HR7 HG7
              generalize fitsB l p good k = ff at HR7 HG7
              have n1 : w7.cell? ⟨G, 1, none⟩ = some (.int .i64 (pp : Int)) := by rw [HG7.out.cell]; rfl
              have n2 : w7.cell? ⟨G, 2, none⟩ = some (.bool (!ff)) := by rw [HG7.out.cell]; rfl
              have MK7 := Lib.hid (show ∀ w', Below w7.heap.size w7 w' → (w'.cell? ⟨G, 1, none⟩ = some (.int .i64 (pp : Int)) ∧ w'.cell? ⟨G, 2, none⟩ = some (.bool (!ff)) ∧ Below w7.heap.size w7 w') from fun w' hb => ⟨(hb.cell HG7.out.lt).trans n1, (hb.cell HG7.out.lt).trans n2, hb⟩)
              have CAT := Lib.hid (show ∀ w', Below w7.heap.size w7 w' → Calls Try.prog 14 #[.pointer (some ⟨g, 0, none⟩)] w' (fun e w'' => e = .returned (.int .i64 (pp : Int)) ∧ Below w7.heap.size w7 w'') from fun w' hb => (at_any w' g A1 c1 l pp ff (HR7.out.below hb HR7.out.blk.lt)).mono (by rintro e w'' ⟨he, hw⟩; exact ⟨he, by rw [← hw]; exact hb⟩))
              have CLE := Lib.hid (show ∀ w', Below w7.heap.size w7 w' → Calls Try.prog 15 #[.pointer (some ⟨g, 0, none⟩)] w' (fun e w'' => e = .returned (.int .i64 ((n : Int) - pp)) ∧ Below w7.heap.size w7 w'') from fun w' hb => (left_any w' g A1 c1 l pp ff (HR7.out.below hb HR7.out.blk.lt)).mono (by rintro e w'' ⟨he, q, hw⟩; exact ⟨by rw [he, HLL.out], by rw [hw]; exact below_drewN hb q⟩))
              have CBA := Lib.hid (show ∀ w', Below w7.heap.size w7 w' → Calls Try.prog 16 #[.pointer (some ⟨g, 0, none⟩)] w' (fun e w'' => e = .returned (.bool (!ff)) ∧ Below w7.heap.size w7 w'') from fun w' hb => (bad_any w' g A1 c1 l pp ff (HR7.out.below hb HR7.out.blk.lt)).mono (by rintro e w'' ⟨he, hw⟩; exact ⟨he, by rw [← hw]; exact hb⟩))
              have hpn : pp ≤ n := by have := HR7.out.le; have := HLL.out; omega
              clear n1 n2 MK
              go_wp2_with fail
              have hwr : IntKind.i64.wrap ((n : Int) - pp) = (n : Int) - pp := IntWalk.i64_in _ (by omega)
              refine wp_region_noPanic ?_
              refine wp_region_held_drew (S := fun w' => w'.cell? ⟨G, 1, none⟩ = some (.int .i64 (pp : Int)) ∧ w'.cell? ⟨G, 2, none⟩ = some (.bool (!ff)) ∧ Below w7.heap.size w7 w') (by kernel_rfl) (MK7.out _ (Below.refl _ _).drew) (fun hHeld => ?_)
              refine wpAnyH_take (i := 0) rfl (by kernel_rfl) (by kernel_rfl) (by kernel_rfl) (fun _ _ _ h => h) (Or.inl ⟨by rfl, by intro W hSW; (try dsimp only at hSW); go_simp; try (with_reducible rfl)⟩) hHeld ?_
              try simp only [Act.put, List.getElem_toArray, List.getElem_cons_zero, List.getElem_cons_succ, List.setIfInBounds_toArray, List.set_cons_zero, List.set_cons_succ]
              refine wpAnyH_take (i := 2) rfl (by kernel_rfl) (by kernel_rfl) (by kernel_rfl) (fun _ _ _ h => h) (Or.inl ⟨by rfl, by intro W hSW; (try dsimp only at hSW); go_simp; try (with_reducible rfl)⟩) hHeld ?_
              try simp only [Act.put, List.getElem_toArray, List.getElem_cons_zero, List.getElem_cons_succ, List.setIfInBounds_toArray, List.set_cons_zero, List.set_cons_succ]
              refine wpAnyH_take (i := 3) rfl (by kernel_rfl) (by kernel_rfl) (by kernel_rfl) (fun _ _ _ h => h) (Or.inl ⟨by rfl, by intro W hSW; (try dsimp only at hSW); go_simp; try (with_reducible rfl)⟩) hHeld ?_
              try simp only [Act.put, List.getElem_toArray, List.getElem_cons_zero, List.getElem_cons_succ, List.setIfInBounds_toArray, List.set_cons_zero, List.set_cons_succ]
              refine wpAnyH_ready (rs := [1]) (by kernel_rfl) (by simp) ?_
              refine AllReadyH.cons rfl (fun K hK => ?_) AllReadyH.nil
              go_simp
              refine (CAT.out _ hHeld.2.2).mono ?_; rintro e w8 ⟨rfl, qb⟩
              try go_wp2_with fail
              refine hK.out _ _ (MK7.out _ qb) ?_
              clear hK K hHeld
              intro hHeld
              clear qb
              try simp only [Act.put, List.getElem_toArray, List.getElem_cons_zero, List.getElem_cons_succ, List.setIfInBounds_toArray, List.set_cons_zero, List.set_cons_succ]
              refine wpAnyH_take (i := 4) rfl (by kernel_rfl) (by kernel_rfl) (by kernel_rfl) (fun _ _ _ h => h) (Or.inl ⟨by rfl, by intro W hSW; (try dsimp only at hSW); go_simp; try (with_reducible rfl)⟩) hHeld ?_
              try simp only [Act.put, List.getElem_toArray, List.getElem_cons_zero, List.getElem_cons_succ, List.setIfInBounds_toArray, List.set_cons_zero, List.set_cons_succ]
              refine wpAnyH_take (i := 5) rfl (by kernel_rfl) (by kernel_rfl) (by kernel_rfl) (fun _ _ _ h => h) (Or.inl ⟨by rfl, by intro W hSW; (try dsimp only at hSW); go_simp; try (with_reducible rfl)⟩) hHeld ?_
              try simp only [Act.put, List.getElem_toArray, List.getElem_cons_zero, List.getElem_cons_succ, List.setIfInBounds_toArray, List.set_cons_zero, List.set_cons_succ]
              refine wpAnyH_take (i := 6) rfl (by kernel_rfl) (by kernel_rfl) (by kernel_rfl) (fun _ _ _ h => h) (Or.inl ⟨by rfl, by intro W hSW; (try dsimp only at hSW); go_simp; try (with_reducible rfl)⟩) hHeld ?_
              try simp only [Act.put, List.getElem_toArray, List.getElem_cons_zero, List.getElem_cons_succ, List.setIfInBounds_toArray, List.set_cons_zero, List.set_cons_succ]
              refine wpAnyH_take (i := 8) rfl (by kernel_rfl) (by kernel_rfl) (by kernel_rfl) (fun _ _ _ h => h) (Or.inl ⟨by rfl, by intro W hSW; (try dsimp only at hSW); go_simp; try (with_reducible rfl)⟩) hHeld ?_
              try simp only [Act.put, List.getElem_toArray, List.getElem_cons_zero, List.getElem_cons_succ, List.setIfInBounds_toArray, List.set_cons_zero, List.set_cons_succ]
              refine wpAnyH_take (i := 9) rfl (by kernel_rfl) (by kernel_rfl) (by kernel_rfl) (fun _ _ _ h => h) (Or.inl ⟨by rfl, by intro W hSW; (try dsimp only at hSW); go_simp; try (with_reducible rfl)⟩) hHeld ?_
              try simp only [Act.put, List.getElem_toArray, List.getElem_cons_zero, List.getElem_cons_succ, List.setIfInBounds_toArray, List.set_cons_zero, List.set_cons_succ]
              refine wpAnyH_take (i := 10) rfl (by kernel_rfl) (by kernel_rfl) (by kernel_rfl) (fun _ _ _ h => h) (Or.inl ⟨by rfl, by intro W hSW; (try dsimp only at hSW); go_simp; try (with_reducible rfl)⟩) hHeld ?_
              try simp only [Act.put, List.getElem_toArray, List.getElem_cons_zero, List.getElem_cons_succ, List.setIfInBounds_toArray, List.set_cons_zero, List.set_cons_succ]
              refine wpAnyH_take (i := 11) rfl (by kernel_rfl) (by kernel_rfl) (by kernel_rfl) (fun _ _ _ h => h) (Or.inl ⟨by rfl, by intro W hSW; (try dsimp only at hSW); go_simp; try (with_reducible rfl)⟩) hHeld ?_
              try simp only [Act.put, List.getElem_toArray, List.getElem_cons_zero, List.getElem_cons_succ, List.setIfInBounds_toArray, List.set_cons_zero, List.set_cons_succ]
              refine wpAnyH_take (i := 12) rfl (by kernel_rfl) (by kernel_rfl) (by kernel_rfl) (fun _ _ _ h => h) (Or.inl ⟨by rfl, by intro W hSW; (try dsimp only at hSW); go_simp; try (with_reducible rfl)⟩) hHeld ?_
              try simp only [Act.put, List.getElem_toArray, List.getElem_cons_zero, List.getElem_cons_succ, List.setIfInBounds_toArray, List.set_cons_zero, List.set_cons_succ]
              refine wpAnyH_ready (rs := [7]) (by kernel_rfl) (by simp) ?_
              refine AllReadyH.cons rfl (fun K hK => ?_) AllReadyH.nil
              go_simp
              refine (CLE.out _ hHeld.2.2).mono ?_; rintro e w9 ⟨rfl, qb⟩
              try go_wp2_with fail
              refine hK.out _ _ (MK7.out _ qb) ?_
              clear hK K hHeld
              intro hHeld
              clear qb
              try simp only [Act.put, List.getElem_toArray, List.getElem_cons_zero, List.getElem_cons_succ, List.setIfInBounds_toArray, List.set_cons_zero, List.set_cons_succ]
              refine wpAnyH_take (i := 13) rfl (by kernel_rfl) (by kernel_rfl) (by kernel_rfl) (fun _ _ _ h => h) (Or.inl ⟨by rfl, by intro W hSW; (try dsimp only at hSW); go_simp; try (with_reducible rfl)⟩) hHeld ?_
              try simp only [Act.put, List.getElem_toArray, List.getElem_cons_zero, List.getElem_cons_succ, List.setIfInBounds_toArray, List.set_cons_zero, List.set_cons_succ]
              refine wpAnyH_take (i := 14) rfl (by kernel_rfl) (by kernel_rfl) (by kernel_rfl) (fun _ _ _ h => h) (Or.inl ⟨by rfl, by intro W hSW; (try dsimp only at hSW); go_simp; try (with_reducible rfl)⟩) hHeld ?_
              try simp only [Act.put, List.getElem_toArray, List.getElem_cons_zero, List.getElem_cons_succ, List.setIfInBounds_toArray, List.set_cons_zero, List.set_cons_succ]
              refine wpAnyH_take (i := 15) rfl (by kernel_rfl) (by kernel_rfl) (by kernel_rfl) (fun _ _ _ h => h) (Or.inl ⟨by rfl, by intro W hSW; (try dsimp only at hSW); go_simp; try (with_reducible rfl)⟩) hHeld ?_
              try simp only [Act.put, List.getElem_toArray, List.getElem_cons_zero, List.getElem_cons_succ, List.setIfInBounds_toArray, List.set_cons_zero, List.set_cons_succ]
              refine wpAnyH_take (i := 16) rfl (by kernel_rfl) (by kernel_rfl) (by kernel_rfl) (fun _ _ _ h => h) (Or.inl ⟨by rfl, by intro W hSW; (try dsimp only at hSW); go_simp; try (with_reducible rfl)⟩) hHeld ?_
              try simp only [Act.put, List.getElem_toArray, List.getElem_cons_zero, List.getElem_cons_succ, List.setIfInBounds_toArray, List.set_cons_zero, List.set_cons_succ]
              refine wpAnyH_take (i := 18) rfl (by kernel_rfl) (by kernel_rfl) (by kernel_rfl) (fun _ _ _ h => h) (Or.inl ⟨by rfl, by intro W hSW; (try dsimp only at hSW); go_simp; try (with_reducible rfl)⟩) hHeld ?_
              try simp only [Act.put, List.getElem_toArray, List.getElem_cons_zero, List.getElem_cons_succ, List.setIfInBounds_toArray, List.set_cons_zero, List.set_cons_succ]
              refine wpAnyH_take (i := 19) rfl (by kernel_rfl) (by kernel_rfl) (by kernel_rfl) (fun _ _ _ h => h) (Or.inl ⟨by rfl, by intro W hSW; (try dsimp only at hSW); go_simp; try (with_reducible rfl)⟩) hHeld ?_
              try simp only [Act.put, List.getElem_toArray, List.getElem_cons_zero, List.getElem_cons_succ, List.setIfInBounds_toArray, List.set_cons_zero, List.set_cons_succ]
              refine wpAnyH_ready (rs := [17]) (by kernel_rfl) (by simp) ?_
              refine AllReadyH.cons rfl (fun K hK => ?_) AllReadyH.nil
              go_simp
              refine (CBA.out _ hHeld.2.2).mono ?_; rintro e w10 ⟨rfl, qb⟩
              try go_wp2_with fail
              refine hK.out _ _ (MK7.out _ qb) ?_
              clear hK K hHeld
              intro hHeld
              clear qb
              try simp only [Act.put, List.getElem_toArray, List.getElem_cons_zero, List.getElem_cons_succ, List.setIfInBounds_toArray, List.set_cons_zero, List.set_cons_succ]
              refine wpAnyH_take (i := 20) rfl (by kernel_rfl) (by kernel_rfl) (by kernel_rfl) (fun _ _ _ h => h) (Or.inl ⟨by rfl, by intro W hSW; (try dsimp only at hSW); go_simp; try (with_reducible rfl)⟩) hHeld ?_
              try simp only [Act.put, List.getElem_toArray, List.getElem_cons_zero, List.getElem_cons_succ, List.setIfInBounds_toArray, List.set_cons_zero, List.set_cons_succ]
              refine wpAnyH_take (i := 21) rfl (by kernel_rfl) (by kernel_rfl) (by kernel_rfl) (fun _ _ _ h => h) (Or.inl ⟨by rfl, by intro W hSW; (try dsimp only at hSW); go_simp; try (with_reducible rfl)⟩) hHeld ?_
              try simp only [Act.put, List.getElem_toArray, List.getElem_cons_zero, List.getElem_cons_succ, List.setIfInBounds_toArray, List.set_cons_zero, List.set_cons_succ]
              refine wpAnyH_done (by kernel_rfl) ?_ _
              refine NoPanic.normal ?_
              clear hwr
              go_wp2_with fail
              go_roundw
              case rel => exact ⟨i + 1, pp, ff, by omega, by go_num, Lib.hid (HR7.out.below hHeld.2.2 HR7.out.blk.lt), Lib.hid (HG7.out.below hHeld.2.2 HG7.out.lt), Lib.hid (HB7.out.trans (hHeld.2.2.mono HB7.out.size))⟩
              case measure => simp [intOf]; omega
          · have e0 : (kk == 0) = false := by simpa using hk0
            have e1 : (kk == 1) = false := by simpa using hk1
            have C29 := Lib.hid (show ∀ (w' : World), Below wr.heap.size wr w' → Calls Try.prog 12 #[.agg #[.slice A n c, .int .i64 p, .bool (!good)], .int .i64 k] w' fun e w'' => e = .returned (.tuple #[.agg #[.slice A n c, .int .i64 (textP l p good k), .bool (!fitsT l p good k)], .string ⟨(textV l p good k).toArray⟩]) ∧ Below w'.heap.size w' w'' from fun w' hb => by
              have h := rnext_any w' A c l p good k HR.out.le (by have := HLL.out; omega) (by rw [HLL.out]; exact (HSW.out.below (hb.mono HB.out.size)).more (Nat.le_trans HB.out.size hb.size))
              unfold RTxt at h
              rw [HLL.out] at h
              exact h)
            have MK := Lib.hid (show ∀ w', Below wr.heap.size wr w' → (w'.cell? ⟨G, 0, none⟩ = some (.slice A n c) ∧ w'.cell? ⟨G, 1, none⟩ = some (.int .i64 p) ∧ w'.cell? ⟨G, 2, none⟩ = some (.bool (!good)) ∧ w'.cell? (x.add (i * 2)) = some (.int .i64 kk) ∧ w'.cell? ⟨(x.add (i * 2)).block, (x.add (i * 2)).off + 1, none⟩ = some (.int .i64 k) ∧ Below wr.heap.size wr w') from fun w' hb =>
              ⟨(hb.cell HG.out.lt).trans m0, (hb.cell HG.out.lt).trans m1, (hb.cell HG.out.lt).trans m2, (hb.cell (World.block_lt_of_cell? wr _ k0)).trans k0, (hb.cell (World.block_lt_of_cell? wr _ k1')).trans k1', hb⟩)
            go_wp2_with fail
            clear m0 m1 m2 k0 k1'
            refine wp_region_noPanic ?_
            refine wp_region_held_drew (S := fun w' => w'.cell? ⟨G, 0, none⟩ = some (.slice A n c) ∧ w'.cell? ⟨G, 1, none⟩ = some (.int .i64 p) ∧ w'.cell? ⟨G, 2, none⟩ = some (.bool (!good)) ∧ w'.cell? (x.add (i * 2)) = some (.int .i64 kk) ∧ w'.cell? ⟨(x.add (i * 2)).block, (x.add (i * 2)).off + 1, none⟩ = some (.int .i64 k) ∧ Below wr.heap.size wr w') (by kernel_rfl) (MK.out _ (Below.refl _ _).drew) (fun hHeld => ?_)
            refine wpAnyH_take (i := 0) rfl (by kernel_rfl) (by kernel_rfl) (by kernel_rfl) (fun _ _ _ h => h) (Or.inl ⟨by rfl, by intro W hSW; (try dsimp only at hSW); go_simp; try (with_reducible rfl)⟩) hHeld ?_
            try simp only [Act.put, List.getElem_toArray, List.getElem_cons_zero, List.getElem_cons_succ, List.setIfInBounds_toArray, List.set_cons_zero, List.set_cons_succ]
            refine wpAnyH_take (i := 1) rfl (by kernel_rfl) (by kernel_rfl) (by kernel_rfl) (fun _ _ _ h => h) (Or.inl ⟨by rfl, by intro W hSW; (try dsimp only at hSW); go_simp; try (with_reducible rfl)⟩) hHeld ?_
            try simp only [Act.put, List.getElem_toArray, List.getElem_cons_zero, List.getElem_cons_succ, List.setIfInBounds_toArray, List.set_cons_zero, List.set_cons_succ]
            refine wpAnyH_take (i := 2) rfl (by kernel_rfl) (by kernel_rfl) (by kernel_rfl) (fun _ _ _ h => h) (Or.inl ⟨by rfl, by intro W hSW; (try dsimp only at hSW); go_simp; try (with_reducible rfl)⟩) hHeld ?_
            try simp only [Act.put, List.getElem_toArray, List.getElem_cons_zero, List.getElem_cons_succ, List.setIfInBounds_toArray, List.set_cons_zero, List.set_cons_succ]
            refine wpAnyH_take (i := 3) rfl (by kernel_rfl) (by kernel_rfl) (by kernel_rfl) (fun _ _ _ h => h) (Or.inl ⟨by rfl, by intro W hSW; (try dsimp only at hSW); go_simp; try (with_reducible rfl)⟩) hHeld ?_
            try simp only [Act.put, List.getElem_toArray, List.getElem_cons_zero, List.getElem_cons_succ, List.setIfInBounds_toArray, List.set_cons_zero, List.set_cons_succ]
            refine wpAnyH_take (i := 4) rfl (by kernel_rfl) (by kernel_rfl) (by kernel_rfl) (fun _ _ _ h => h) (Or.inl ⟨by rfl, by intro W hSW; (try dsimp only at hSW); go_simp; try (with_reducible rfl)⟩) hHeld ?_
            try simp only [Act.put, List.getElem_toArray, List.getElem_cons_zero, List.getElem_cons_succ, List.setIfInBounds_toArray, List.set_cons_zero, List.set_cons_succ]
            refine wpAnyH_take (i := 5) rfl (by kernel_rfl) (by kernel_rfl) (by kernel_rfl) (fun _ _ _ h => h) (Or.inl ⟨by rfl, by intro W hSW; (try dsimp only at hSW); go_simp; try (with_reducible rfl)⟩) hHeld ?_
            try simp only [Act.put, List.getElem_toArray, List.getElem_cons_zero, List.getElem_cons_succ, List.setIfInBounds_toArray, List.set_cons_zero, List.set_cons_succ]
            refine wpAnyH_ready (rs := [6, 10]) (by kernel_rfl) (by simp) ?_
            refine AllReadyH.cons rfl (fun K hK => ?_) (AllReadyH.cons rfl (fun K hK => ?_) AllReadyH.nil)
            · go_simp
              refine (C29.out _ hHeld.2.2.2.2.2).mono ?_
              rintro e w4 ⟨rfl, qb⟩
              try go_wp2_with fail
              refine hK.out _ _ (MK.out _ (hHeld.2.2.2.2.2.trans (qb.mono hHeld.2.2.2.2.2.size))) ?_
              clear hK K hHeld qb
              intro hHeld
              try simp only [Act.put, List.getElem_toArray, List.getElem_cons_zero, List.getElem_cons_succ, List.setIfInBounds_toArray, List.set_cons_zero, List.set_cons_succ]
              refine wpAnyH_take (i := 7) rfl (by kernel_rfl) (by kernel_rfl) (by kernel_rfl) (fun _ _ _ h => h) (Or.inl ⟨by rfl, by intro W hSW; (try dsimp only at hSW); go_simp; try (with_reducible rfl)⟩) hHeld ?_
              try simp only [Act.put, List.getElem_toArray, List.getElem_cons_zero, List.getElem_cons_succ, List.setIfInBounds_toArray, List.set_cons_zero, List.set_cons_succ]
              refine wpAnyH_take (i := 8) rfl (by kernel_rfl) (by kernel_rfl) (by kernel_rfl) (fun _ _ _ h => h) (Or.inl ⟨by rfl, by intro W hSW; (try dsimp only at hSW); go_simp; try (with_reducible rfl)⟩) hHeld ?_
              try simp only [Act.put, List.getElem_toArray, List.getElem_cons_zero, List.getElem_cons_succ, List.setIfInBounds_toArray, List.set_cons_zero, List.set_cons_succ]
              refine wpAnyH_take (i := 9) rfl (by kernel_rfl) (by kernel_rfl) (by kernel_rfl) (fun _ _ _ h => h) (Or.inl ⟨by rfl, by intro W hSW; (try dsimp only at hSW); go_simp; try (with_reducible rfl)⟩) hHeld ?_
              try simp only [Act.put, List.getElem_toArray, List.getElem_cons_zero, List.getElem_cons_succ, List.setIfInBounds_toArray, List.set_cons_zero, List.set_cons_succ]
              refine wpAnyH_ready (rs := [10]) (by kernel_rfl) (by simp) ?_
              refine AllReadyH.cons rfl (fun K hK => ?_) AllReadyH.nil
              go_simp
              refine hK.out _ _ (MK.out _ (hHeld.2.2.2.2.2.alloc hHeld.2.2.2.2.2.size _)) ?_
              clear hK K
              intro hHeld2
              try simp only [Act.put, List.getElem_toArray, List.getElem_cons_zero, List.getElem_cons_succ, List.setIfInBounds_toArray, List.set_cons_zero, List.set_cons_succ]
              have HH := Lib.hid (Mem.Blk.new w4 28 #[.slice none 0 0, .int .i64 0, .bool false])
              have HBW := Lib.hid hHeld2.2.2.2.2.2
              have HLT := Lib.hid (show wr.heap.size ≤ w4.heap.size from hHeld.2.2.2.2.2.size)
              refine wpAnyH_ready (rs := [11]) (by kernel_rfl) (by simp) ?_
              refine AllReadyH.cons rfl (fun K hK => ?_) AllReadyH.nil
              go_simp
              obtain ⟨w5, hw5⟩ : ∃ w5, w4.alloc (.cells #[.slice A n c, .int .i64 (textP l p good k), .bool (!fitsT l p good k)] 28) = w5 := ⟨_, rfl⟩
              rw [hw5]
              have HW5 := Lib.hid (show Mem.Blk w5 w4.heap.size 28 #[.slice A n c, .int .i64 (textP l p good k), .bool (!fitsT l p good k)] by rw [← hw5]; exact Mem.Blk.new w4 28 #[.slice A n c, .int .i64 (textP l p good k), .bool (!fitsT l p good k)])
              have HB5 := Lib.hid (show Below wr.heap.size wr w5 by rw [← hw5]; exact hHeld.2.2.2.2.2.alloc hHeld.2.2.2.2.2.size _)
              have hH := HLT.out
              obtain ⟨H, hHe⟩ : ∃ H, w4.heap.size = H := ⟨_, rfl⟩
              rw [hHe] at HW5 hH ⊢
              refine hK.out _ _ (MK.out _ HB5.out) ?_
              clear hK K hHeld hHeld2 HH HBW HLT hw5 hHe
              intro hHeld
              try simp only [Act.put, List.getElem_toArray, List.getElem_cons_zero, List.getElem_cons_succ, List.setIfInBounds_toArray, List.set_cons_zero, List.set_cons_succ]
              refine wpAnyH_take (i := 12) rfl (by kernel_rfl) (by kernel_rfl) (by kernel_rfl) (fun _ _ _ h => h) (Or.inl ⟨by rfl, by intro W hSW; (try dsimp only at hSW); go_simp; try (with_reducible rfl)⟩) hHeld ?_
              try simp only [Act.put, List.getElem_toArray, List.getElem_cons_zero, List.getElem_cons_succ, List.setIfInBounds_toArray, List.set_cons_zero, List.set_cons_succ]
              refine wpAnyH_done (by kernel_rfl) ?_ _
              refine NoPanic.normal ?_
              have HR5 := Lib.hid (HR.out.below HB5.out HR.out.blk.lt)
              have HG5 := Lib.hid (HG.out.below HB5.out HG.out.lt)
              have hGlt := HG.out.lt
              have hGH : ¬ H = G := by omega
              have hHG : ¬ G = H := by omega
              have h0 : w5.cell? ⟨H, 0, none⟩ = some (.slice A n c) := by rw [HW5.out.cell]; rfl
              have h1 : w5.cell? ⟨H, 1, none⟩ = some (.int .i64 (textP l p good k)) := by rw [HW5.out.cell]; rfl
              have h2 : w5.cell? ⟨H, 2, none⟩ = some (.bool (!fitsT l p good k)) := by rw [HW5.out.cell]; rfl
              have g0 := hHeld.1
              have g1 := hHeld.2.1
              have g2 := hHeld.2.2.1
              have f0 := HG5.out.frozen 0
              have f1 := HG5.out.frozen 1
              have f2 := HG5.out.frozen 2
              have hxG : ¬ (x.add (i * 2)).block = G := HXG.out
              have k6 : (((w5.setCell ⟨G, 0, none⟩ (.slice A n c)).setCell ⟨G, 1, none⟩ (.int .i64 (textP l p good k))).setCell ⟨G, 2, none⟩ (.bool (!fitsT l p good k))).cell? (x.add (i * 2)) = some (.int .i64 kk) := by
                rw [World.cell?_setCell_other _ _ _ _ (fun e => hxG (by have h := congrArg Addr.block e; first | exact h | exact h.symm)), World.cell?_setCell_other _ _ _ _ (fun e => hxG (by have h := congrArg Addr.block e; first | exact h | exact h.symm)), World.cell?_setCell_other _ _ _ _ (fun e => hxG (by have h := congrArg Addr.block e; first | exact h | exact h.symm))]; exact hHeld.2.2.2.1
              have k7 : (((w5.setCell ⟨G, 0, none⟩ (.slice A n c)).setCell ⟨G, 1, none⟩ (.int .i64 (textP l p good k))).setCell ⟨G, 2, none⟩ (.bool (!fitsT l p good k))).cell? ⟨(x.add (i * 2)).block, (x.add (i * 2)).off + 1, none⟩ = some (.int .i64 k) := by
                rw [World.cell?_setCell_other _ _ _ _ (fun e => hxG (by have h := congrArg Addr.block e; first | exact h | exact h.symm)), World.cell?_setCell_other _ _ _ _ (fun e => hxG (by have h := congrArg Addr.block e; first | exact h | exact h.symm)), World.cell?_setCell_other _ _ _ _ (fun e => hxG (by have h := congrArg Addr.block e; first | exact h | exact h.symm))]; exact hHeld.2.2.2.2.1
              clear hHeld
              go_wp2_with fail
              obtain ⟨w6, hw6⟩ : ∃ w6, (((w5.setCell ⟨G, 0, none⟩ (.slice A n c)).setCell ⟨G, 1, none⟩ (.int .i64 (textP l p good k))).setCell ⟨G, 2, none⟩ (.bool (!fitsT l p good k))) = w6 := ⟨_, rfl⟩
              have ho6 : w5.grownBy w6 (some G) := by rw [← hw6]; exact only_set (only_set (only_set (only_refl w5 G) 0 _) 1 _) 2 _
              have HG6 := Lib.hid (show Mem.Blk w6 G 28 #[.slice A n c, .int .i64 (textP l p good k), .bool (!fitsT l p good k)] by rw [← hw6]; simpa using ((HG5.out.stored 0 (.slice A n c)).stored 1 (.int .i64 (textP l p good k))).stored 2 (.bool (!fitsT l p good k)))
              rw [hw6] at k6 k7 ⊢
              have HR6 := Lib.hid (HR5.out.only ho6 hgu)
              have HB6 := Lib.hid (below_of_only (HB.out.trans (HB5.out.mono HB.out.size)) ho6 (by have := HB.out.size; have := HB5.out.size; omega) hGw)
              clear h0 h1 h2 g0 g1 g2 f0 f1 f2 hw6 ho6 HW5 HR5 HG5 hGH hHG hxG k6 k7 hH
              have HC := text_read w6 g A1 c1 l p good HR6.out k
              unfold ReadT at HC
              have HC2 := Lib.hid HC
              clear HC
              refine HC2.out.mono ?_
              rintro e w7 ⟨rfl, hr7, ho7⟩
              have HR7 := Lib.hid hr7
              have HG7 := Lib.hid (HG6.out.only ho7 (by omega))
              have HB7 := Lib.hid (below_of_only HB6.out ho7 HB6.out.size hg)
              clear hr7 ho7 HG6 HR6 HB6 HC2
              generalize (⟨(textV l p good k).toArray⟩ : ByteArray) = z
              generalize textP l p good k = pp at HR7 HG7
              generalize fitsT l p good k = ff at HR7 HG7
              have n1 : w7.cell? ⟨G, 1, none⟩ = some (.int .i64 (pp : Int)) := by rw [HG7.out.cell]; rfl
              have n2 : w7.cell? ⟨G, 2, none⟩ = some (.bool (!ff)) := by rw [HG7.out.cell]; rfl
              have MK7 := Lib.hid (show ∀ w', Below w7.heap.size w7 w' → (w'.cell? ⟨G, 1, none⟩ = some (.int .i64 (pp : Int)) ∧ w'.cell? ⟨G, 2, none⟩ = some (.bool (!ff)) ∧ Below w7.heap.size w7 w') from fun w' hb => ⟨(hb.cell HG7.out.lt).trans n1, (hb.cell HG7.out.lt).trans n2, hb⟩)
              have CAT := Lib.hid (show ∀ w', Below w7.heap.size w7 w' → Calls Try.prog 14 #[.pointer (some ⟨g, 0, none⟩)] w' (fun e w'' => e = .returned (.int .i64 (pp : Int)) ∧ Below w7.heap.size w7 w'') from fun w' hb => (at_any w' g A1 c1 l pp ff (HR7.out.below hb HR7.out.blk.lt)).mono (by rintro e w'' ⟨he, hw⟩; exact ⟨he, by rw [← hw]; exact hb⟩))
              have CLE := Lib.hid (show ∀ w', Below w7.heap.size w7 w' → Calls Try.prog 15 #[.pointer (some ⟨g, 0, none⟩)] w' (fun e w'' => e = .returned (.int .i64 ((n : Int) - pp)) ∧ Below w7.heap.size w7 w'') from fun w' hb => (left_any w' g A1 c1 l pp ff (HR7.out.below hb HR7.out.blk.lt)).mono (by rintro e w'' ⟨he, q, hw⟩; exact ⟨by rw [he, HLL.out], by rw [hw]; exact below_drewN hb q⟩))
              have CBA := Lib.hid (show ∀ w', Below w7.heap.size w7 w' → Calls Try.prog 16 #[.pointer (some ⟨g, 0, none⟩)] w' (fun e w'' => e = .returned (.bool (!ff)) ∧ Below w7.heap.size w7 w'') from fun w' hb => (bad_any w' g A1 c1 l pp ff (HR7.out.below hb HR7.out.blk.lt)).mono (by rintro e w'' ⟨he, hw⟩; exact ⟨he, by rw [← hw]; exact hb⟩))
              have hpn : pp ≤ n := by have := HR7.out.le; have := HLL.out; omega
              clear n1 n2 MK
              go_wp2_with fail
              have hwr : IntKind.i64.wrap ((n : Int) - pp) = (n : Int) - pp := IntWalk.i64_in _ (by omega)
              refine wp_region_noPanic ?_
              refine wp_region_held_drew (S := fun w' => w'.cell? ⟨G, 1, none⟩ = some (.int .i64 (pp : Int)) ∧ w'.cell? ⟨G, 2, none⟩ = some (.bool (!ff)) ∧ Below w7.heap.size w7 w') (by kernel_rfl) (MK7.out _ (Below.refl _ _).drew) (fun hHeld => ?_)
              refine wpAnyH_take (i := 0) rfl (by kernel_rfl) (by kernel_rfl) (by kernel_rfl) (fun _ _ _ h => h) (Or.inl ⟨by rfl, by intro W hSW; (try dsimp only at hSW); go_simp; try (with_reducible rfl)⟩) hHeld ?_
              try simp only [Act.put, List.getElem_toArray, List.getElem_cons_zero, List.getElem_cons_succ, List.setIfInBounds_toArray, List.set_cons_zero, List.set_cons_succ]
              refine wpAnyH_take (i := 2) rfl (by kernel_rfl) (by kernel_rfl) (by kernel_rfl) (fun _ _ _ h => h) (Or.inl ⟨by rfl, by intro W hSW; (try dsimp only at hSW); go_simp; try (with_reducible rfl)⟩) hHeld ?_
              try simp only [Act.put, List.getElem_toArray, List.getElem_cons_zero, List.getElem_cons_succ, List.setIfInBounds_toArray, List.set_cons_zero, List.set_cons_succ]
              refine wpAnyH_take (i := 3) rfl (by kernel_rfl) (by kernel_rfl) (by kernel_rfl) (fun _ _ _ h => h) (Or.inl ⟨by rfl, by intro W hSW; (try dsimp only at hSW); go_simp; try (with_reducible rfl)⟩) hHeld ?_
              try simp only [Act.put, List.getElem_toArray, List.getElem_cons_zero, List.getElem_cons_succ, List.setIfInBounds_toArray, List.set_cons_zero, List.set_cons_succ]
              refine wpAnyH_ready (rs := [1]) (by kernel_rfl) (by simp) ?_
              refine AllReadyH.cons rfl (fun K hK => ?_) AllReadyH.nil
              go_simp
              refine (CAT.out _ hHeld.2.2).mono ?_; rintro e w8 ⟨rfl, qb⟩
              try go_wp2_with fail
              refine hK.out _ _ (MK7.out _ qb) ?_
              clear hK K hHeld
              intro hHeld
              clear qb
              try simp only [Act.put, List.getElem_toArray, List.getElem_cons_zero, List.getElem_cons_succ, List.setIfInBounds_toArray, List.set_cons_zero, List.set_cons_succ]
              refine wpAnyH_take (i := 4) rfl (by kernel_rfl) (by kernel_rfl) (by kernel_rfl) (fun _ _ _ h => h) (Or.inl ⟨by rfl, by intro W hSW; (try dsimp only at hSW); go_simp; try (with_reducible rfl)⟩) hHeld ?_
              try simp only [Act.put, List.getElem_toArray, List.getElem_cons_zero, List.getElem_cons_succ, List.setIfInBounds_toArray, List.set_cons_zero, List.set_cons_succ]
              refine wpAnyH_take (i := 5) rfl (by kernel_rfl) (by kernel_rfl) (by kernel_rfl) (fun _ _ _ h => h) (Or.inl ⟨by rfl, by intro W hSW; (try dsimp only at hSW); go_simp; try (with_reducible rfl)⟩) hHeld ?_
              try simp only [Act.put, List.getElem_toArray, List.getElem_cons_zero, List.getElem_cons_succ, List.setIfInBounds_toArray, List.set_cons_zero, List.set_cons_succ]
              refine wpAnyH_take (i := 6) rfl (by kernel_rfl) (by kernel_rfl) (by kernel_rfl) (fun _ _ _ h => h) (Or.inl ⟨by rfl, by intro W hSW; (try dsimp only at hSW); go_simp; try (with_reducible rfl)⟩) hHeld ?_
              try simp only [Act.put, List.getElem_toArray, List.getElem_cons_zero, List.getElem_cons_succ, List.setIfInBounds_toArray, List.set_cons_zero, List.set_cons_succ]
              refine wpAnyH_take (i := 8) rfl (by kernel_rfl) (by kernel_rfl) (by kernel_rfl) (fun _ _ _ h => h) (Or.inl ⟨by rfl, by intro W hSW; (try dsimp only at hSW); go_simp; try (with_reducible rfl)⟩) hHeld ?_
              try simp only [Act.put, List.getElem_toArray, List.getElem_cons_zero, List.getElem_cons_succ, List.setIfInBounds_toArray, List.set_cons_zero, List.set_cons_succ]
              refine wpAnyH_take (i := 9) rfl (by kernel_rfl) (by kernel_rfl) (by kernel_rfl) (fun _ _ _ h => h) (Or.inl ⟨by rfl, by intro W hSW; (try dsimp only at hSW); go_simp; try (with_reducible rfl)⟩) hHeld ?_
              try simp only [Act.put, List.getElem_toArray, List.getElem_cons_zero, List.getElem_cons_succ, List.setIfInBounds_toArray, List.set_cons_zero, List.set_cons_succ]
              refine wpAnyH_take (i := 10) rfl (by kernel_rfl) (by kernel_rfl) (by kernel_rfl) (fun _ _ _ h => h) (Or.inl ⟨by rfl, by intro W hSW; (try dsimp only at hSW); go_simp; try (with_reducible rfl)⟩) hHeld ?_
              try simp only [Act.put, List.getElem_toArray, List.getElem_cons_zero, List.getElem_cons_succ, List.setIfInBounds_toArray, List.set_cons_zero, List.set_cons_succ]
              refine wpAnyH_take (i := 11) rfl (by kernel_rfl) (by kernel_rfl) (by kernel_rfl) (fun _ _ _ h => h) (Or.inl ⟨by rfl, by intro W hSW; (try dsimp only at hSW); go_simp; try (with_reducible rfl)⟩) hHeld ?_
              try simp only [Act.put, List.getElem_toArray, List.getElem_cons_zero, List.getElem_cons_succ, List.setIfInBounds_toArray, List.set_cons_zero, List.set_cons_succ]
              refine wpAnyH_take (i := 12) rfl (by kernel_rfl) (by kernel_rfl) (by kernel_rfl) (fun _ _ _ h => h) (Or.inl ⟨by rfl, by intro W hSW; (try dsimp only at hSW); go_simp; try (with_reducible rfl)⟩) hHeld ?_
              try simp only [Act.put, List.getElem_toArray, List.getElem_cons_zero, List.getElem_cons_succ, List.setIfInBounds_toArray, List.set_cons_zero, List.set_cons_succ]
              refine wpAnyH_ready (rs := [7]) (by kernel_rfl) (by simp) ?_
              refine AllReadyH.cons rfl (fun K hK => ?_) AllReadyH.nil
              go_simp
              refine (CLE.out _ hHeld.2.2).mono ?_; rintro e w9 ⟨rfl, qb⟩
              try go_wp2_with fail
              refine hK.out _ _ (MK7.out _ qb) ?_
              clear hK K hHeld
              intro hHeld
              clear qb
              try simp only [Act.put, List.getElem_toArray, List.getElem_cons_zero, List.getElem_cons_succ, List.setIfInBounds_toArray, List.set_cons_zero, List.set_cons_succ]
              refine wpAnyH_take (i := 13) rfl (by kernel_rfl) (by kernel_rfl) (by kernel_rfl) (fun _ _ _ h => h) (Or.inl ⟨by rfl, by intro W hSW; (try dsimp only at hSW); go_simp; try (with_reducible rfl)⟩) hHeld ?_
              try simp only [Act.put, List.getElem_toArray, List.getElem_cons_zero, List.getElem_cons_succ, List.setIfInBounds_toArray, List.set_cons_zero, List.set_cons_succ]
              refine wpAnyH_take (i := 14) rfl (by kernel_rfl) (by kernel_rfl) (by kernel_rfl) (fun _ _ _ h => h) (Or.inl ⟨by rfl, by intro W hSW; (try dsimp only at hSW); go_simp; try (with_reducible rfl)⟩) hHeld ?_
              try simp only [Act.put, List.getElem_toArray, List.getElem_cons_zero, List.getElem_cons_succ, List.setIfInBounds_toArray, List.set_cons_zero, List.set_cons_succ]
              refine wpAnyH_take (i := 15) rfl (by kernel_rfl) (by kernel_rfl) (by kernel_rfl) (fun _ _ _ h => h) (Or.inl ⟨by rfl, by intro W hSW; (try dsimp only at hSW); go_simp; try (with_reducible rfl)⟩) hHeld ?_
              try simp only [Act.put, List.getElem_toArray, List.getElem_cons_zero, List.getElem_cons_succ, List.setIfInBounds_toArray, List.set_cons_zero, List.set_cons_succ]
              refine wpAnyH_take (i := 16) rfl (by kernel_rfl) (by kernel_rfl) (by kernel_rfl) (fun _ _ _ h => h) (Or.inl ⟨by rfl, by intro W hSW; (try dsimp only at hSW); go_simp; try (with_reducible rfl)⟩) hHeld ?_
              try simp only [Act.put, List.getElem_toArray, List.getElem_cons_zero, List.getElem_cons_succ, List.setIfInBounds_toArray, List.set_cons_zero, List.set_cons_succ]
              refine wpAnyH_take (i := 18) rfl (by kernel_rfl) (by kernel_rfl) (by kernel_rfl) (fun _ _ _ h => h) (Or.inl ⟨by rfl, by intro W hSW; (try dsimp only at hSW); go_simp; try (with_reducible rfl)⟩) hHeld ?_
              try simp only [Act.put, List.getElem_toArray, List.getElem_cons_zero, List.getElem_cons_succ, List.setIfInBounds_toArray, List.set_cons_zero, List.set_cons_succ]
              refine wpAnyH_take (i := 19) rfl (by kernel_rfl) (by kernel_rfl) (by kernel_rfl) (fun _ _ _ h => h) (Or.inl ⟨by rfl, by intro W hSW; (try dsimp only at hSW); go_simp; try (with_reducible rfl)⟩) hHeld ?_
              try simp only [Act.put, List.getElem_toArray, List.getElem_cons_zero, List.getElem_cons_succ, List.setIfInBounds_toArray, List.set_cons_zero, List.set_cons_succ]
              refine wpAnyH_ready (rs := [17]) (by kernel_rfl) (by simp) ?_
              refine AllReadyH.cons rfl (fun K hK => ?_) AllReadyH.nil
              go_simp
              refine (CBA.out _ hHeld.2.2).mono ?_; rintro e w10 ⟨rfl, qb⟩
              try go_wp2_with fail
              refine hK.out _ _ (MK7.out _ qb) ?_
              clear hK K hHeld
              intro hHeld
              clear qb
              try simp only [Act.put, List.getElem_toArray, List.getElem_cons_zero, List.getElem_cons_succ, List.setIfInBounds_toArray, List.set_cons_zero, List.set_cons_succ]
              refine wpAnyH_take (i := 20) rfl (by kernel_rfl) (by kernel_rfl) (by kernel_rfl) (fun _ _ _ h => h) (Or.inl ⟨by rfl, by intro W hSW; (try dsimp only at hSW); go_simp; try (with_reducible rfl)⟩) hHeld ?_
              try simp only [Act.put, List.getElem_toArray, List.getElem_cons_zero, List.getElem_cons_succ, List.setIfInBounds_toArray, List.set_cons_zero, List.set_cons_succ]
              refine wpAnyH_take (i := 21) rfl (by kernel_rfl) (by kernel_rfl) (by kernel_rfl) (fun _ _ _ h => h) (Or.inl ⟨by rfl, by intro W hSW; (try dsimp only at hSW); go_simp; try (with_reducible rfl)⟩) hHeld ?_
              try simp only [Act.put, List.getElem_toArray, List.getElem_cons_zero, List.getElem_cons_succ, List.setIfInBounds_toArray, List.set_cons_zero, List.set_cons_succ]
              refine wpAnyH_done (by kernel_rfl) ?_ _
              refine NoPanic.normal ?_
              clear hwr
              go_wp2_with fail
              go_roundw
              case rel => exact ⟨i + 1, pp, ff, by omega, by go_num, Lib.hid (HR7.out.below hHeld.2.2 HR7.out.blk.lt), Lib.hid (HG7.out.below hHeld.2.2 HG7.out.lt), Lib.hid (HB7.out.trans (hHeld.2.2.mono HB7.out.size))⟩
              case measure => simp [intOf]; omega
            · go_simp
              refine hK.out _ _ (MK.out _ (hHeld.2.2.2.2.2.alloc hHeld.2.2.2.2.2.size _)) ?_
              clear hK K hHeld
              intro hHeld
              try simp only [Act.put, List.getElem_toArray, List.getElem_cons_zero, List.getElem_cons_succ, List.setIfInBounds_toArray, List.set_cons_zero, List.set_cons_succ]
              have HBa := Lib.hid (hHeld.2.2.2.2.2)
              refine wpAnyH_ready (rs := [6]) (by kernel_rfl) (by simp) ?_
              refine AllReadyH.cons rfl (fun K hK => ?_) AllReadyH.nil
              go_simp
              refine (C29.out _ hHeld.2.2.2.2.2).mono ?_
              rintro e w4 ⟨rfl, qb⟩
              have HH := Lib.hid ((show Mem.Blk ((wr.alloc (.cells #[.slice none 0 0, .int .i64 0, .bool false] 28)).drew) wr.heap.size 28 #[.slice none 0 0, .int .i64 0, .bool false] from Mem.Blk.new wr 28 _).below qb (by show wr.heap.size < (wr.heap.push _).size; simp))
              have HQB := Lib.hid qb
              try go_wp2_with fail
              refine hK.out _ _ (MK.out _ (hHeld.2.2.2.2.2.trans (qb.mono hHeld.2.2.2.2.2.size))) ?_
              clear hK K hHeld qb
              intro hHeld
              try simp only [Act.put, List.getElem_toArray, List.getElem_cons_zero, List.getElem_cons_succ, List.setIfInBounds_toArray, List.set_cons_zero, List.set_cons_succ]
              refine wpAnyH_take (i := 7) rfl (by kernel_rfl) (by kernel_rfl) (by kernel_rfl) (fun _ _ _ h => h) (Or.inl ⟨by rfl, by intro W hSW; (try dsimp only at hSW); go_simp; try (with_reducible rfl)⟩) hHeld ?_
              try simp only [Act.put, List.getElem_toArray, List.getElem_cons_zero, List.getElem_cons_succ, List.setIfInBounds_toArray, List.set_cons_zero, List.set_cons_succ]
              refine wpAnyH_take (i := 8) rfl (by kernel_rfl) (by kernel_rfl) (by kernel_rfl) (fun _ _ _ h => h) (Or.inl ⟨by rfl, by intro W hSW; (try dsimp only at hSW); go_simp; try (with_reducible rfl)⟩) hHeld ?_
              try simp only [Act.put, List.getElem_toArray, List.getElem_cons_zero, List.getElem_cons_succ, List.setIfInBounds_toArray, List.set_cons_zero, List.set_cons_succ]
              refine wpAnyH_take (i := 9) rfl (by kernel_rfl) (by kernel_rfl) (by kernel_rfl) (fun _ _ _ h => h) (Or.inl ⟨by rfl, by intro W hSW; (try dsimp only at hSW); go_simp; try (with_reducible rfl)⟩) hHeld ?_
              try simp only [Act.put, List.getElem_toArray, List.getElem_cons_zero, List.getElem_cons_succ, List.setIfInBounds_toArray, List.set_cons_zero, List.set_cons_succ]
              have f0 := HH.out.frozen 0
              have f1 := HH.out.frozen 1
              have f2 := HH.out.frozen 2
              have c0 : w4.cell? ⟨wr.heap.size, 0, none⟩ = some (.slice none 0 0) := by rw [HH.out.cell]; rfl
              have c1 : w4.cell? ⟨wr.heap.size, 1, none⟩ = some (.int .i64 0) := by rw [HH.out.cell]; rfl
              have c2 : w4.cell? ⟨wr.heap.size, 2, none⟩ = some (.bool false) := by rw [HH.out.cell]; rfl
              refine wpAnyH_ready (rs := [11]) (by kernel_rfl) (by simp) ?_
              refine AllReadyH.cons rfl (fun K hK => ?_) AllReadyH.nil
              go_simp
              obtain ⟨w5, hw5⟩ : ∃ w5, ((w4.setCell ⟨wr.heap.size, 0, none⟩ (.slice A n c)).setCell ⟨wr.heap.size, 1, none⟩ (.int .i64 (textP l p good k))).setCell ⟨wr.heap.size, 2, none⟩ (.bool (!fitsT l p good k)) = w5 := ⟨_, rfl⟩
              rw [hw5]
              have HW5 := Lib.hid (show Mem.Blk w5 wr.heap.size 28 #[.slice A n c, .int .i64 (textP l p good k), .bool (!fitsT l p good k)] by rw [← hw5]; simpa using ((HH.out.stored 0 (.slice A n c)).stored 1 (.int .i64 (textP l p good k))).stored 2 (.bool (!fitsT l p good k)))
              have HB5 := Lib.hid (show Below wr.heap.size wr w5 by rw [← hw5]; exact ((hHeld.2.2.2.2.2.setCell (p := ⟨wr.heap.size, 0, none⟩) (Nat.le_refl _) _).setCell (p := ⟨wr.heap.size, 1, none⟩) (Nat.le_refl _) _).setCell (p := ⟨wr.heap.size, 2, none⟩) (Nat.le_refl _) _)
              have hH := Nat.le_refl wr.heap.size
              obtain ⟨H, hHe⟩ : ∃ H, wr.heap.size = H := ⟨_, rfl⟩
              rw (occs := .pos [2]) [hHe] at hH
              rw [hHe] at HW5
              simp only [hHe]
              have hH2 : wr.heap.size ≤ H := by omega
              clear hH
              have hH := hH2
              refine hK.out _ _ (MK.out _ HB5.out) ?_
              clear hK K hHeld HH HBa HQB hw5 hHe f0 f1 f2 c0 c1 c2 hH2
              intro hHeld
              try simp only [Act.put, List.getElem_toArray, List.getElem_cons_zero, List.getElem_cons_succ, List.setIfInBounds_toArray, List.set_cons_zero, List.set_cons_succ]
              refine wpAnyH_take (i := 12) rfl (by kernel_rfl) (by kernel_rfl) (by kernel_rfl) (fun _ _ _ h => h) (Or.inl ⟨by rfl, by intro W hSW; (try dsimp only at hSW); go_simp; try (with_reducible rfl)⟩) hHeld ?_
              try simp only [Act.put, List.getElem_toArray, List.getElem_cons_zero, List.getElem_cons_succ, List.setIfInBounds_toArray, List.set_cons_zero, List.set_cons_succ]
              refine wpAnyH_done (by kernel_rfl) ?_ _
              refine NoPanic.normal ?_
              have HR5 := Lib.hid (HR.out.below HB5.out HR.out.blk.lt)
              have HG5 := Lib.hid (HG.out.below HB5.out HG.out.lt)
              have hGlt := HG.out.lt
              have hGH : ¬ H = G := by omega
              have hHG : ¬ G = H := by omega
              have h0 : w5.cell? ⟨H, 0, none⟩ = some (.slice A n c) := by rw [HW5.out.cell]; rfl
              have h1 : w5.cell? ⟨H, 1, none⟩ = some (.int .i64 (textP l p good k)) := by rw [HW5.out.cell]; rfl
              have h2 : w5.cell? ⟨H, 2, none⟩ = some (.bool (!fitsT l p good k)) := by rw [HW5.out.cell]; rfl
              have g0 := hHeld.1
              have g1 := hHeld.2.1
              have g2 := hHeld.2.2.1
              have f0 := HG5.out.frozen 0
              have f1 := HG5.out.frozen 1
              have f2 := HG5.out.frozen 2
              have hxG : ¬ (x.add (i * 2)).block = G := HXG.out
              have k6 : (((w5.setCell ⟨G, 0, none⟩ (.slice A n c)).setCell ⟨G, 1, none⟩ (.int .i64 (textP l p good k))).setCell ⟨G, 2, none⟩ (.bool (!fitsT l p good k))).cell? (x.add (i * 2)) = some (.int .i64 kk) := by
                rw [World.cell?_setCell_other _ _ _ _ (fun e => hxG (by have h := congrArg Addr.block e; first | exact h | exact h.symm)), World.cell?_setCell_other _ _ _ _ (fun e => hxG (by have h := congrArg Addr.block e; first | exact h | exact h.symm)), World.cell?_setCell_other _ _ _ _ (fun e => hxG (by have h := congrArg Addr.block e; first | exact h | exact h.symm))]; exact hHeld.2.2.2.1
              have k7 : (((w5.setCell ⟨G, 0, none⟩ (.slice A n c)).setCell ⟨G, 1, none⟩ (.int .i64 (textP l p good k))).setCell ⟨G, 2, none⟩ (.bool (!fitsT l p good k))).cell? ⟨(x.add (i * 2)).block, (x.add (i * 2)).off + 1, none⟩ = some (.int .i64 k) := by
                rw [World.cell?_setCell_other _ _ _ _ (fun e => hxG (by have h := congrArg Addr.block e; first | exact h | exact h.symm)), World.cell?_setCell_other _ _ _ _ (fun e => hxG (by have h := congrArg Addr.block e; first | exact h | exact h.symm)), World.cell?_setCell_other _ _ _ _ (fun e => hxG (by have h := congrArg Addr.block e; first | exact h | exact h.symm))]; exact hHeld.2.2.2.2.1
              clear hHeld
              go_wp2_with fail
              obtain ⟨w6, hw6⟩ : ∃ w6, (((w5.setCell ⟨G, 0, none⟩ (.slice A n c)).setCell ⟨G, 1, none⟩ (.int .i64 (textP l p good k))).setCell ⟨G, 2, none⟩ (.bool (!fitsT l p good k))) = w6 := ⟨_, rfl⟩
              have ho6 : w5.grownBy w6 (some G) := by rw [← hw6]; exact only_set (only_set (only_set (only_refl w5 G) 0 _) 1 _) 2 _
              have HG6 := Lib.hid (show Mem.Blk w6 G 28 #[.slice A n c, .int .i64 (textP l p good k), .bool (!fitsT l p good k)] by rw [← hw6]; simpa using ((HG5.out.stored 0 (.slice A n c)).stored 1 (.int .i64 (textP l p good k))).stored 2 (.bool (!fitsT l p good k)))
              rw [hw6] at k6 k7 ⊢
              have HR6 := Lib.hid (HR5.out.only ho6 hgu)
              have HB6 := Lib.hid (below_of_only (HB.out.trans (HB5.out.mono HB.out.size)) ho6 (by have := HB.out.size; have := HB5.out.size; omega) hGw)
              clear h0 h1 h2 g0 g1 g2 f0 f1 f2 hw6 ho6 HW5 HR5 HG5 hGH hHG hxG k6 k7 hH
              have HC := text_read w6 g A1 c1 l p good HR6.out k
              unfold ReadT at HC
              have HC2 := Lib.hid HC
              clear HC
              refine HC2.out.mono ?_
              rintro e w7 ⟨rfl, hr7, ho7⟩
              have HR7 := Lib.hid hr7
              have HG7 := Lib.hid (HG6.out.only ho7 (by omega))
              have HB7 := Lib.hid (below_of_only HB6.out ho7 HB6.out.size hg)
              clear hr7 ho7 HG6 HR6 HB6 HC2
              generalize (⟨(textV l p good k).toArray⟩ : ByteArray) = z
              generalize textP l p good k = pp at HR7 HG7
              generalize fitsT l p good k = ff at HR7 HG7
              have n1 : w7.cell? ⟨G, 1, none⟩ = some (.int .i64 (pp : Int)) := by rw [HG7.out.cell]; rfl
              have n2 : w7.cell? ⟨G, 2, none⟩ = some (.bool (!ff)) := by rw [HG7.out.cell]; rfl
              have MK7 := Lib.hid (show ∀ w', Below w7.heap.size w7 w' → (w'.cell? ⟨G, 1, none⟩ = some (.int .i64 (pp : Int)) ∧ w'.cell? ⟨G, 2, none⟩ = some (.bool (!ff)) ∧ Below w7.heap.size w7 w') from fun w' hb => ⟨(hb.cell HG7.out.lt).trans n1, (hb.cell HG7.out.lt).trans n2, hb⟩)
              have CAT := Lib.hid (show ∀ w', Below w7.heap.size w7 w' → Calls Try.prog 14 #[.pointer (some ⟨g, 0, none⟩)] w' (fun e w'' => e = .returned (.int .i64 (pp : Int)) ∧ Below w7.heap.size w7 w'') from fun w' hb => (at_any w' g A1 c1 l pp ff (HR7.out.below hb HR7.out.blk.lt)).mono (by rintro e w'' ⟨he, hw⟩; exact ⟨he, by rw [← hw]; exact hb⟩))
              have CLE := Lib.hid (show ∀ w', Below w7.heap.size w7 w' → Calls Try.prog 15 #[.pointer (some ⟨g, 0, none⟩)] w' (fun e w'' => e = .returned (.int .i64 ((n : Int) - pp)) ∧ Below w7.heap.size w7 w'') from fun w' hb => (left_any w' g A1 c1 l pp ff (HR7.out.below hb HR7.out.blk.lt)).mono (by rintro e w'' ⟨he, q, hw⟩; exact ⟨by rw [he, HLL.out], by rw [hw]; exact below_drewN hb q⟩))
              have CBA := Lib.hid (show ∀ w', Below w7.heap.size w7 w' → Calls Try.prog 16 #[.pointer (some ⟨g, 0, none⟩)] w' (fun e w'' => e = .returned (.bool (!ff)) ∧ Below w7.heap.size w7 w'') from fun w' hb => (bad_any w' g A1 c1 l pp ff (HR7.out.below hb HR7.out.blk.lt)).mono (by rintro e w'' ⟨he, hw⟩; exact ⟨he, by rw [← hw]; exact hb⟩))
              have hpn : pp ≤ n := by have := HR7.out.le; have := HLL.out; omega
              clear n1 n2 MK
              go_wp2_with fail
              have hwr : IntKind.i64.wrap ((n : Int) - pp) = (n : Int) - pp := IntWalk.i64_in _ (by omega)
              refine wp_region_noPanic ?_
              refine wp_region_held_drew (S := fun w' => w'.cell? ⟨G, 1, none⟩ = some (.int .i64 (pp : Int)) ∧ w'.cell? ⟨G, 2, none⟩ = some (.bool (!ff)) ∧ Below w7.heap.size w7 w') (by kernel_rfl) (MK7.out _ (Below.refl _ _).drew) (fun hHeld => ?_)
              refine wpAnyH_take (i := 0) rfl (by kernel_rfl) (by kernel_rfl) (by kernel_rfl) (fun _ _ _ h => h) (Or.inl ⟨by rfl, by intro W hSW; (try dsimp only at hSW); go_simp; try (with_reducible rfl)⟩) hHeld ?_
              try simp only [Act.put, List.getElem_toArray, List.getElem_cons_zero, List.getElem_cons_succ, List.setIfInBounds_toArray, List.set_cons_zero, List.set_cons_succ]
              refine wpAnyH_take (i := 2) rfl (by kernel_rfl) (by kernel_rfl) (by kernel_rfl) (fun _ _ _ h => h) (Or.inl ⟨by rfl, by intro W hSW; (try dsimp only at hSW); go_simp; try (with_reducible rfl)⟩) hHeld ?_
              try simp only [Act.put, List.getElem_toArray, List.getElem_cons_zero, List.getElem_cons_succ, List.setIfInBounds_toArray, List.set_cons_zero, List.set_cons_succ]
              refine wpAnyH_take (i := 3) rfl (by kernel_rfl) (by kernel_rfl) (by kernel_rfl) (fun _ _ _ h => h) (Or.inl ⟨by rfl, by intro W hSW; (try dsimp only at hSW); go_simp; try (with_reducible rfl)⟩) hHeld ?_
              try simp only [Act.put, List.getElem_toArray, List.getElem_cons_zero, List.getElem_cons_succ, List.setIfInBounds_toArray, List.set_cons_zero, List.set_cons_succ]
              refine wpAnyH_ready (rs := [1]) (by kernel_rfl) (by simp) ?_
              refine AllReadyH.cons rfl (fun K hK => ?_) AllReadyH.nil
              go_simp
              refine (CAT.out _ hHeld.2.2).mono ?_; rintro e w8 ⟨rfl, qb⟩
              try go_wp2_with fail
              refine hK.out _ _ (MK7.out _ qb) ?_
              clear hK K hHeld
              intro hHeld
              clear qb
              try simp only [Act.put, List.getElem_toArray, List.getElem_cons_zero, List.getElem_cons_succ, List.setIfInBounds_toArray, List.set_cons_zero, List.set_cons_succ]
              refine wpAnyH_take (i := 4) rfl (by kernel_rfl) (by kernel_rfl) (by kernel_rfl) (fun _ _ _ h => h) (Or.inl ⟨by rfl, by intro W hSW; (try dsimp only at hSW); go_simp; try (with_reducible rfl)⟩) hHeld ?_
              try simp only [Act.put, List.getElem_toArray, List.getElem_cons_zero, List.getElem_cons_succ, List.setIfInBounds_toArray, List.set_cons_zero, List.set_cons_succ]
              refine wpAnyH_take (i := 5) rfl (by kernel_rfl) (by kernel_rfl) (by kernel_rfl) (fun _ _ _ h => h) (Or.inl ⟨by rfl, by intro W hSW; (try dsimp only at hSW); go_simp; try (with_reducible rfl)⟩) hHeld ?_
              try simp only [Act.put, List.getElem_toArray, List.getElem_cons_zero, List.getElem_cons_succ, List.setIfInBounds_toArray, List.set_cons_zero, List.set_cons_succ]
              refine wpAnyH_take (i := 6) rfl (by kernel_rfl) (by kernel_rfl) (by kernel_rfl) (fun _ _ _ h => h) (Or.inl ⟨by rfl, by intro W hSW; (try dsimp only at hSW); go_simp; try (with_reducible rfl)⟩) hHeld ?_
              try simp only [Act.put, List.getElem_toArray, List.getElem_cons_zero, List.getElem_cons_succ, List.setIfInBounds_toArray, List.set_cons_zero, List.set_cons_succ]
              refine wpAnyH_take (i := 8) rfl (by kernel_rfl) (by kernel_rfl) (by kernel_rfl) (fun _ _ _ h => h) (Or.inl ⟨by rfl, by intro W hSW; (try dsimp only at hSW); go_simp; try (with_reducible rfl)⟩) hHeld ?_
              try simp only [Act.put, List.getElem_toArray, List.getElem_cons_zero, List.getElem_cons_succ, List.setIfInBounds_toArray, List.set_cons_zero, List.set_cons_succ]
              refine wpAnyH_take (i := 9) rfl (by kernel_rfl) (by kernel_rfl) (by kernel_rfl) (fun _ _ _ h => h) (Or.inl ⟨by rfl, by intro W hSW; (try dsimp only at hSW); go_simp; try (with_reducible rfl)⟩) hHeld ?_
              try simp only [Act.put, List.getElem_toArray, List.getElem_cons_zero, List.getElem_cons_succ, List.setIfInBounds_toArray, List.set_cons_zero, List.set_cons_succ]
              refine wpAnyH_take (i := 10) rfl (by kernel_rfl) (by kernel_rfl) (by kernel_rfl) (fun _ _ _ h => h) (Or.inl ⟨by rfl, by intro W hSW; (try dsimp only at hSW); go_simp; try (with_reducible rfl)⟩) hHeld ?_
              try simp only [Act.put, List.getElem_toArray, List.getElem_cons_zero, List.getElem_cons_succ, List.setIfInBounds_toArray, List.set_cons_zero, List.set_cons_succ]
              refine wpAnyH_take (i := 11) rfl (by kernel_rfl) (by kernel_rfl) (by kernel_rfl) (fun _ _ _ h => h) (Or.inl ⟨by rfl, by intro W hSW; (try dsimp only at hSW); go_simp; try (with_reducible rfl)⟩) hHeld ?_
              try simp only [Act.put, List.getElem_toArray, List.getElem_cons_zero, List.getElem_cons_succ, List.setIfInBounds_toArray, List.set_cons_zero, List.set_cons_succ]
              refine wpAnyH_take (i := 12) rfl (by kernel_rfl) (by kernel_rfl) (by kernel_rfl) (fun _ _ _ h => h) (Or.inl ⟨by rfl, by intro W hSW; (try dsimp only at hSW); go_simp; try (with_reducible rfl)⟩) hHeld ?_
              try simp only [Act.put, List.getElem_toArray, List.getElem_cons_zero, List.getElem_cons_succ, List.setIfInBounds_toArray, List.set_cons_zero, List.set_cons_succ]
              refine wpAnyH_ready (rs := [7]) (by kernel_rfl) (by simp) ?_
              refine AllReadyH.cons rfl (fun K hK => ?_) AllReadyH.nil
              go_simp
              refine (CLE.out _ hHeld.2.2).mono ?_; rintro e w9 ⟨rfl, qb⟩
              try go_wp2_with fail
              refine hK.out _ _ (MK7.out _ qb) ?_
              clear hK K hHeld
              intro hHeld
              clear qb
              try simp only [Act.put, List.getElem_toArray, List.getElem_cons_zero, List.getElem_cons_succ, List.setIfInBounds_toArray, List.set_cons_zero, List.set_cons_succ]
              refine wpAnyH_take (i := 13) rfl (by kernel_rfl) (by kernel_rfl) (by kernel_rfl) (fun _ _ _ h => h) (Or.inl ⟨by rfl, by intro W hSW; (try dsimp only at hSW); go_simp; try (with_reducible rfl)⟩) hHeld ?_
              try simp only [Act.put, List.getElem_toArray, List.getElem_cons_zero, List.getElem_cons_succ, List.setIfInBounds_toArray, List.set_cons_zero, List.set_cons_succ]
              refine wpAnyH_take (i := 14) rfl (by kernel_rfl) (by kernel_rfl) (by kernel_rfl) (fun _ _ _ h => h) (Or.inl ⟨by rfl, by intro W hSW; (try dsimp only at hSW); go_simp; try (with_reducible rfl)⟩) hHeld ?_
              try simp only [Act.put, List.getElem_toArray, List.getElem_cons_zero, List.getElem_cons_succ, List.setIfInBounds_toArray, List.set_cons_zero, List.set_cons_succ]
              refine wpAnyH_take (i := 15) rfl (by kernel_rfl) (by kernel_rfl) (by kernel_rfl) (fun _ _ _ h => h) (Or.inl ⟨by rfl, by intro W hSW; (try dsimp only at hSW); go_simp; try (with_reducible rfl)⟩) hHeld ?_
              try simp only [Act.put, List.getElem_toArray, List.getElem_cons_zero, List.getElem_cons_succ, List.setIfInBounds_toArray, List.set_cons_zero, List.set_cons_succ]
              refine wpAnyH_take (i := 16) rfl (by kernel_rfl) (by kernel_rfl) (by kernel_rfl) (fun _ _ _ h => h) (Or.inl ⟨by rfl, by intro W hSW; (try dsimp only at hSW); go_simp; try (with_reducible rfl)⟩) hHeld ?_
              try simp only [Act.put, List.getElem_toArray, List.getElem_cons_zero, List.getElem_cons_succ, List.setIfInBounds_toArray, List.set_cons_zero, List.set_cons_succ]
              refine wpAnyH_take (i := 18) rfl (by kernel_rfl) (by kernel_rfl) (by kernel_rfl) (fun _ _ _ h => h) (Or.inl ⟨by rfl, by intro W hSW; (try dsimp only at hSW); go_simp; try (with_reducible rfl)⟩) hHeld ?_
              try simp only [Act.put, List.getElem_toArray, List.getElem_cons_zero, List.getElem_cons_succ, List.setIfInBounds_toArray, List.set_cons_zero, List.set_cons_succ]
              refine wpAnyH_take (i := 19) rfl (by kernel_rfl) (by kernel_rfl) (by kernel_rfl) (fun _ _ _ h => h) (Or.inl ⟨by rfl, by intro W hSW; (try dsimp only at hSW); go_simp; try (with_reducible rfl)⟩) hHeld ?_
              try simp only [Act.put, List.getElem_toArray, List.getElem_cons_zero, List.getElem_cons_succ, List.setIfInBounds_toArray, List.set_cons_zero, List.set_cons_succ]
              refine wpAnyH_ready (rs := [17]) (by kernel_rfl) (by simp) ?_
              refine AllReadyH.cons rfl (fun K hK => ?_) AllReadyH.nil
              go_simp
              refine (CBA.out _ hHeld.2.2).mono ?_; rintro e w10 ⟨rfl, qb⟩
              try go_wp2_with fail
              refine hK.out _ _ (MK7.out _ qb) ?_
              clear hK K hHeld
              intro hHeld
              clear qb
              try simp only [Act.put, List.getElem_toArray, List.getElem_cons_zero, List.getElem_cons_succ, List.setIfInBounds_toArray, List.set_cons_zero, List.set_cons_succ]
              refine wpAnyH_take (i := 20) rfl (by kernel_rfl) (by kernel_rfl) (by kernel_rfl) (fun _ _ _ h => h) (Or.inl ⟨by rfl, by intro W hSW; (try dsimp only at hSW); go_simp; try (with_reducible rfl)⟩) hHeld ?_
              try simp only [Act.put, List.getElem_toArray, List.getElem_cons_zero, List.getElem_cons_succ, List.setIfInBounds_toArray, List.set_cons_zero, List.set_cons_succ]
              refine wpAnyH_take (i := 21) rfl (by kernel_rfl) (by kernel_rfl) (by kernel_rfl) (fun _ _ _ h => h) (Or.inl ⟨by rfl, by intro W hSW; (try dsimp only at hSW); go_simp; try (with_reducible rfl)⟩) hHeld ?_
              try simp only [Act.put, List.getElem_toArray, List.getElem_cons_zero, List.getElem_cons_succ, List.setIfInBounds_toArray, List.set_cons_zero, List.set_cons_succ]
              refine wpAnyH_done (by kernel_rfl) ?_ _
              refine NoPanic.normal ?_
              clear hwr
              go_wp2_with fail
              go_roundw
              case rel => exact ⟨i + 1, pp, ff, by omega, by go_num, Lib.hid (HR7.out.below hHeld.2.2 HR7.out.blk.lt), Lib.hid (HG7.out.below hHeld.2.2 HG7.out.lt), Lib.hid (HB7.out.trans (hHeld.2.2.mono HB7.out.size))⟩
              case measure => simp [intOf]; omega
    · obtain rfl : i = len1 := by omega
      go_wp2_with fail
      refine (known_any _).mono ?_
      rintro e w9 ⟨rfl, hb9⟩
      go_wp2_with fail
      go_ret
      exact ⟨rfl, HB.out.trans (hb9.mono HB.out.size)⟩

theorem reads_big (w : World) (n c : Nat) (A a1 : Option Addr) (len1 cap1 : Nat) (hbad : 600 < n ∨ 60 < len1) :
    Calls Try.prog 3 #[.slice A n c, .slice a1 len1 cap1] w fun e w' => e = .returned (.bool true) ∧ Below w.heap.size w w' := by
  have hd : decide (600 < (n : Int)) = true ∨ (decide (600 < (n : Int)) = false ∧ decide (60 < (len1 : Int)) = true) := by
    simp only [decide_eq_true_eq, decide_eq_false_iff_not]
    omega
  clear hbad
  rcases hd with hd | ⟨hd, d1⟩
  all_goals
    go_enter Try.func3, Try.ntmps3
    go_wp2_with fail
    refine (known_any _).mono ?_
    rintro e w1 ⟨rfl, hb⟩
    go_wp2_with fail
    go_ret
    exact ⟨rfl, hb⟩
end Go.Proofs.Ytlpmndljjdljmaa.By
