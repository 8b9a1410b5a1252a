/-
  WALKS of layer 28: Lean: the document's.
-/
import Derived.Test.YtnenmgefgdpkdaaTj
namespace Go.Proofs.Ytnenmgefgdpkdaa.Bo
open Go.RowKit Go.Maps
open Mem Rf
set_option linter.unusedSimpArgs false
set_option linter.unusedVariables false

set_option maxRecDepth 100000 in
set_option maxHeartbeats 4000000 in
theorem rlean_any (w : World) (P : Pgm) (hfr : Wd 13 encGf w w.heap.size P.fA P.fn P.fc P.fs) (hfn : P.fn ≤ 1000) (hkn : ∀ a, a < P.fn → (gfAt P.fs a).F.kinds.2.1 ≤ 1000) (xA yA : Option Addr) (xn xc yn yc : Nat) (xl yl : List Bool) (hx : BL w xA xn xc xl) (hy : BL w yA yn yc yl) : Calls Try.prog 20 #[pgV P, .slice xA xn xc, .slice yA yn yc] w (plA w P.fn (kpOf xl) (ckLean P yl)) := by
  have HGF := Lib.hid (fun W (hb : Below w.heap.size w W) a (ha : a < P.fn) => gf_at (hfr.below hb) ha)
  have HMX := Lib.hid (fun W (hb : Below w.heap.size w W) a (ha : a < xn) => (hx.on hb).at_ ha)
  have HMY := Lib.hid (fun W (hb : Below w.heap.size w W) a (ha : a < yn) => (hy.on hb).at_ ha)
  have HXO := Lib.hid (show ∀ a, xn ≤ a → xl.getD a false = false from fun a ha => getD_out (by rw [hx.1]; exact ha))
  have HMO := Lib.hid (show ∀ a, yn ≤ a → yl.getD a false = false from fun a ha => getD_out (by rw [hy.1]; exact ha))
  have hxn := hx.few
  have hyn := hy.few
  have HKN := Lib.hid hkn
  clear hx hy hkn
  obtain ⟨ff, hff⟩ : ∃ x, (kpOf xl) = x := ⟨_, rfl⟩
  obtain ⟨gg, hgg⟩ : ∃ x, (ckLean P yl) = x := ⟨_, rfl⟩
  rw [hff, hgg]
  have HFF := Lib.hid hff
  have HGG := Lib.hid hgg
  clear hff hgg hfr
  obtain ⟨fA, fn, fc, fs, dA, dn, dc, ds, en, cs⟩ := P
  unfold pgV
  dsimp only at HGF HKN hfn ⊢
  have HN := Lib.hid hfn
  obtain ⟨iN, hiN, hzN0, hzN1, hzN2⟩ := info_split infoInt
  obtain ⟨iB, hiB, hzB0, hzB1, hzB2⟩ := info_split infoBool
  obtain ⟨W0, hW0⟩ : ∃ W0, ((w.alloc (.cells #[.slice fA fn fc, .slice dA dn dc, .int .i64 en] 34)).alloc (.cells #[.slice none 0 0, .slice none 0 0] 29)).alloc (.cells #[.slice none 0 0, .slice none 0 0] 29) = W0 := ⟨_, rfl⟩
  have HF0 := Lib.hid (show FilR w W0 #[.slice fA fn fc, .slice dA dn dc, .int .i64 en] (.slice none 0 0) (.slice none 0 0) 0 0 ff gg from by
    rw [← hW0]
    refine ⟨to_ (alloc_ _ _) (to_ (alloc_ _ _) (alloc_ _ _)), ((Blk.new _ _ _).alloc _).alloc _, ?_, ?_, World.ownsRow_nil _ _ _ _, World.ownsRow_nil _ _ _ _⟩
    · have := (Blk.new (w.alloc (.cells #[.slice fA fn fc, .slice dA dn dc, .int .i64 en] 34)) 29 #[.slice none 0 0, .slice none 0 0]).alloc (.cells #[.slice none 0 0, .slice none 0 0] 29)
      rwa [World.size_alloc] at this
    · have := Blk.new ((w.alloc (.cells #[.slice fA fn fc, .slice dA dn dc, .int .i64 en] 34)).alloc (.cells #[.slice none 0 0, .slice none 0 0] 29)) 29 #[.slice none 0 0, .slice none 0 0]
      rwa [World.size_alloc, World.size_alloc] at this)
  go_enter Try.func20, Try.ntmps20
  go_wp2_with fail
  clear hW0
  go_loopw [8] (fun i9 wr => ∃ (k : Nat) (v1 v2 : Value), k ≤ fn ∧ i9 = .int .i64 (k : Int) ∧ Hid (FilR w wr #[.slice fA fn fc, .slice dA dn dc, .int .i64 en] v1 v2 k k ff gg)) (fun i9 _ => fn - (intOf i9).toNat)
  case atStart => exact ⟨0, _, _, Nat.zero_le _, rfl, HF0⟩
  case round =>
    obtain ⟨k, v1, v2, hk, rfl, HF⟩ := hrel
    have d0 : wr.cell? ⟨w.heap.size, 0, none⟩ = some (.slice fA fn fc) := HF.out.prog.cell 0
    by_cases hlt : k < fn
    · have hkI : (k : Int) < (fn : Int) := by omega
      have hk0 : (0 : Int) ≤ (k : Int) := by omega
      have HLT := Lib.hid hlt
      have HFK := Lib.hid (congrFun HFF.out k)
      have HGK := Lib.hid (congrFun HGG.out k)
      unfold kpOf at HFK
      unfold ckLean at HGK
      dsimp only at HFK HGK
      have e0 : wr.cell? ⟨w.heap.size + 1 + 1, 0, none⟩ = some v1 := HF.out.box.cell 0
      have HFN := Lib.hid (HKN.out k hlt)
      obtain ⟨g, hg⟩ : ∃ g, gfAt fs k = g := ⟨_, rfl⟩
      have HG9 := Lib.hid hg
      rw [hg] at HGK HFN
      clear hg
      obtain ⟨file, item, nm, ⟨cl, ⟨kA, kn, kc⟩, pd, no, fr, tt, ⟨lA, ln, lc⟩, ⟨cA, cn, cc⟩, ⟨rA, rn, rc⟩⟩, ⟨qA, qn, qc⟩, refs⟩ := g
      dsimp only at HGK HFN
      have HFR := Lib.hid (fun W => rframe_any ⟨cl, (kA, kn, kc), pd, no, fr, tt, (lA, ln, lc), (cA, cn, cc), (rA, rn, rc)⟩ HFN.out W)
      unfold encFc slV at HFR
      dsimp only at HFR
      obtain ⟨z, hz⟩ : ∃ z, frV ⟨cl, (kA, kn, kc), pd, no, fr, tt, (lA, ln, lc), (cA, cn, cc), (rA, rn, rc)⟩ = z := ⟨_, rfl⟩
      rw [hz] at HFR HGK
      have HLE := Lib.hid (fun W => rleast_any z W)
      obtain ⟨v, hv⟩ : ∃ v, leastV z = v := ⟨_, rfl⟩
      rw [hv] at HLE HGK
      clear hz hv
      obtain ⟨d, hd⟩ : ∃ d, yl.getD k false = d := ⟨_, rfl⟩
      rw [hd] at HGK
      have HD9 := Lib.hid hd
      clear hd
      by_cases hx : k < xn
      · have hxI : (k : Int) < (xn : Int) := by omega
        obtain ⟨ad5, hax, hx6, hx5⟩ := HMX.out wr HF.out.low k hx
        subst hax
        have HXK := Lib.hid (show ∀ W, Below w.heap.size w W → W.cell? (ad5.add k) = some (.bool (xl.getD k false)) from fun W hb => by
          obtain ⟨a9, e9, _, h9⟩ := HMX.out W hb k hx
          injection e9 with e9
          subst e9
          exact h9)
        obtain ⟨b, hb⟩ : ∃ b, xl.getD k false = b := ⟨_, rfl⟩
        rw [hb] at hx5 HFK HXK
        clear hb
        go_wp2_with fail
        refine (fun (key : ∀ (wA : World) (B1 : Option Addr) (x1 : Nat), Hid (FilR w wA #[.slice fA fn fc, .slice dA dn dc, .int .i64 en] (.slice B1 (k + 1) x1) v2 (k + 1) k ff gg) → (?G1 : World → Option Addr → Nat → Prop) wA B1 x1) => ?main1) ?pf1
        case main1 =>
          refine wp_region_noPanic ?_
          refine wp_region_held_drew (S := fun W => W.cell? (ad5.add k) = some (.bool b)) (by kernel_rfl) (hx5) (fun hHeld => ?_)
          refine wpAnyH_take (i := 0) rfl (by kernel_rfl) (by kernel_rfl) (by kernel_rfl) (fun _ _ _ h => h) (Or.inl ⟨by rfl, by intro W hSW; (try dsimp only at hSW); go_simp; try (with_reducible rfl)⟩) hHeld ?_
          try simp only [Act.put, List.getElem_toArray, List.getElem_cons_zero, List.getElem_cons_succ, List.setIfInBounds_toArray, List.set_cons_zero, List.set_cons_succ]
          refine wpAnyH_take (i := 2) rfl (by kernel_rfl) (by kernel_rfl) (by kernel_rfl) (fun _ _ _ h => h) (Or.inl ⟨by rfl, by intro W hSW; (try dsimp only at hSW); go_simp; try (with_reducible rfl)⟩) hHeld ?_
          try simp only [Act.put, List.getElem_toArray, List.getElem_cons_zero, List.getElem_cons_succ, List.setIfInBounds_toArray, List.set_cons_zero, List.set_cons_succ]
          refine wpAnyH_take (i := 3) rfl (by kernel_rfl) (by kernel_rfl) (by kernel_rfl) (fun _ _ _ h => h) (Or.inl ⟨by rfl, by intro W hSW; (try dsimp only at hSW); go_simp; try (with_reducible rfl)⟩) hHeld ?_
          try simp only [Act.put, List.getElem_toArray, List.getElem_cons_zero, List.getElem_cons_succ, List.setIfInBounds_toArray, List.set_cons_zero, List.set_cons_succ]
          refine wpAnyH_take (i := 4) rfl (by kernel_rfl) (by kernel_rfl) (by kernel_rfl) (fun _ _ _ h => h) (Or.inl ⟨by rfl, by intro W hSW; (try dsimp only at hSW); go_simp; try (with_reducible rfl)⟩) hHeld ?_
          try simp only [Act.put, List.getElem_toArray, List.getElem_cons_zero, List.getElem_cons_succ, List.setIfInBounds_toArray, List.set_cons_zero, List.set_cons_succ]
          refine wpAnyH_take (i := 5) rfl (by kernel_rfl) (by kernel_rfl) (by kernel_rfl) (fun _ _ _ h => h) (Or.inl ⟨by rfl, by intro W hSW; (try dsimp only at hSW); go_simp; try (with_reducible rfl)⟩) hHeld ?_
          try simp only [Act.put, List.getElem_toArray, List.getElem_cons_zero, List.getElem_cons_succ, List.setIfInBounds_toArray, List.set_cons_zero, List.set_cons_succ]
          refine wpAnyH_take (i := 6) rfl (by kernel_rfl) (by kernel_rfl) (by kernel_rfl) (fun _ _ _ h => h) (Or.inl ⟨by rfl, by intro W hSW; (try dsimp only at hSW); go_simp; try (with_reducible rfl)⟩) hHeld ?_
          try simp only [Act.put, List.getElem_toArray, List.getElem_cons_zero, List.getElem_cons_succ, List.setIfInBounds_toArray, List.set_cons_zero, List.set_cons_succ]
          refine wpAnyH_take (i := 7) rfl (by kernel_rfl) (by kernel_rfl) (by kernel_rfl) (fun _ _ _ h => h) (Or.inl ⟨by rfl, by intro W hSW; (try dsimp only at hSW); go_simp; try (with_reducible rfl)⟩) hHeld ?_
          try simp only [Act.put, List.getElem_toArray, List.getElem_cons_zero, List.getElem_cons_succ, List.setIfInBounds_toArray, List.set_cons_zero, List.set_cons_succ]
          refine wpAnyH_take (i := 8) rfl (by kernel_rfl) (by kernel_rfl) (by kernel_rfl) (fun _ _ _ h => h) (Or.inl ⟨by rfl, by intro W hSW; (try dsimp only at hSW); go_simp; try (with_reducible rfl)⟩) hHeld ?_
          try simp only [Act.put, List.getElem_toArray, List.getElem_cons_zero, List.getElem_cons_succ, List.setIfInBounds_toArray, List.set_cons_zero, List.set_cons_succ]
          refine wpAnyH_take (i := 9) rfl (by kernel_rfl) (by kernel_rfl) (by kernel_rfl) (fun _ _ _ h => h) (Or.inl ⟨by rfl, by intro W hSW; (try dsimp only at hSW); go_simp; try (with_reducible rfl)⟩) hHeld ?_
          try simp only [Act.put, List.getElem_toArray, List.getElem_cons_zero, List.getElem_cons_succ, List.setIfInBounds_toArray, List.set_cons_zero, List.set_cons_succ]
          refine wpAnyH_take (i := 10) rfl (by kernel_rfl) (by kernel_rfl) (by kernel_rfl) (fun _ _ _ h => h) (Or.inl ⟨by rfl, by intro W hSW; (try dsimp only at hSW); go_simp; try (with_reducible rfl)⟩) hHeld ?_
          try simp only [Act.put, List.getElem_toArray, List.getElem_cons_zero, List.getElem_cons_succ, List.setIfInBounds_toArray, List.set_cons_zero, List.set_cons_succ]
          refine wpAnyH_take (i := 11) rfl (by kernel_rfl) (by kernel_rfl) (by kernel_rfl) (fun _ _ _ h => h) (Or.inl ⟨by rfl, by intro W hSW; (try dsimp only at hSW); go_simp; try (with_reducible rfl)⟩) hHeld ?_
          try simp only [Act.put, List.getElem_toArray, List.getElem_cons_zero, List.getElem_cons_succ, List.setIfInBounds_toArray, List.set_cons_zero, List.set_cons_succ]
          refine wpAnyH_ready (rs := [1, 12]) (by kernel_rfl) (by simp) ?_
          refine AllReadyH.cons rfl (fun K hK => ?_) (AllReadyH.cons rfl (fun K hK => ?_) AllReadyH.nil)
          · go_simp
            refine hK.out _ _ (hHeld) ?_
            clear hK K hHeld
            intro hHeld
            try simp only [Act.put, List.getElem_toArray, List.getElem_cons_zero, List.getElem_cons_succ, List.setIfInBounds_toArray, List.set_cons_zero, List.set_cons_succ]
            refine wpAnyH_ready (rs := [12]) (by kernel_rfl) (by simp) ?_
            refine AllReadyH.cons rfl (fun K hK => ?_) AllReadyH.nil
            go_simp
            refine hK.out _ _ (cell_on hHeld (alloc_ _ _)) ?_
            clear hK K hHeld
            intro hHeld
            try simp only [Act.put, List.getElem_toArray, List.getElem_cons_zero, List.getElem_cons_succ, List.setIfInBounds_toArray, List.set_cons_zero, List.set_cons_succ]
            refine wpAnyH_ready (rs := [13]) (by kernel_rfl) (by simp) ?_
            refine AllReadyH.cons rfl (fun K hK => ?_) AllReadyH.nil
            have KH := hHeld
            refine step_append_own rfl _ _ 26 rfl (w.heap.size + 3) 4 iB (.bool false) 1 1 Try.underlying26 hiB hzB0 hzB1 hzB2 rfl (by decide) _ k (((List.range k).map ff).flatMap encB) rfl (own_on HF.out.drew.r1 (alloc_ _ _)) ⟨wr.heap.size, 0, none⟩ 1 [.bool b] rfl rfl (fun j u hu => by rw [add_plain, Nat.zero_add]; exact ((Blk.new wr.drew 4 #[.bool b]).cell j).trans (by simpa using hu)) (by simp [Value.oneCell']) (by unfold maxLen; omega) (by omega) (by have := HF.out.box.lt; simp; omega) ?_
            intro v' w6 h2 h3
            have HP1 := Lib.hid (HF.out.drew.app1 (.cells #[.bool b] 4) (v' := v') (by rw [← HFK.out]; exact h2) h3)
            have HB6 := Lib.hid (show Below w.heap.size w w6 from (to_ HF.out.drew.low (alloc_ _ _)).grown h3 (to_ HF.out.drew.low (alloc_ _ _)).size fun r e => by have := (HF.out.r1.lt r e).1; omega)
            clear h2 h3
            obtain ⟨B1, x1, rfl⟩ := own_form HP1.out.1.r1
            have q0 := HP1.out.2.1
            have q1 := HP1.out.2.2
            obtain ⟨wA, hwA⟩ : ∃ x, w6.setCell ⟨w.heap.size + 1 + 1, 0, none⟩ (.slice B1 (k + 1) x1) = x := ⟨_, rfl⟩
            have HWA := Lib.hid hwA
            have HP2 := Lib.hid (show FilR w wA #[.slice fA fn fc, .slice dA dn dc, .int .i64 en] (.slice B1 (k + 1) x1) v2 (k + 1) k ff gg from by rw [← hwA]; exact HP1.out.1)
            refine hK.out _ _ (HXK.out w6 HB6.out) ?_
            clear hK K hHeld
            intro hHeld
            try simp only [Act.put, List.getElem_toArray, List.getElem_cons_zero, List.getElem_cons_succ, List.setIfInBounds_toArray, List.set_cons_zero, List.set_cons_succ]
            clear KH
            refine wpAnyH_take (i := 14) rfl (by kernel_rfl) (by kernel_rfl) (by kernel_rfl) (fun _ _ _ h => h) (Or.inl ⟨by rfl, by intro W hSW; (try dsimp only at hSW); go_simp; try (with_reducible rfl)⟩) hHeld ?_
            try simp only [Act.put, List.getElem_toArray, List.getElem_cons_zero, List.getElem_cons_succ, List.setIfInBounds_toArray, List.set_cons_zero, List.set_cons_succ]
            refine wpAnyH_ready (rs := [15]) (by kernel_rfl) (by simp) ?_
            refine AllReadyH.cons rfl (fun K hK => ?_) AllReadyH.nil
            go_simp
            try go_wp2_with fail
            refine hK.out _ _ (HXK.out wA HP2.out.low) ?_
            clear hK K hHeld
            intro hHeld
            try simp only [Act.put, List.getElem_toArray, List.getElem_cons_zero, List.getElem_cons_succ, List.setIfInBounds_toArray, List.set_cons_zero, List.set_cons_succ]
            refine wpAnyH_done (by kernel_rfl) ?_ _
            refine NoPanic.normal ?_
            clear q0 q1
            clear hHeld
            exact key wA B1 x1 HP2
          · go_simp
            refine hK.out _ _ (cell_on hHeld (alloc_ _ _)) ?_
            clear hK K hHeld
            intro hHeld
            try simp only [Act.put, List.getElem_toArray, List.getElem_cons_zero, List.getElem_cons_succ, List.setIfInBounds_toArray, List.set_cons_zero, List.set_cons_succ]
            have e0' : (wr.alloc (.cells #[.bool b] 4)).cell? ⟨w.heap.size + 1 + 1, 0, none⟩ = some v1 := cell_on e0 (alloc_ _ _)
            refine wpAnyH_ready (rs := [1]) (by kernel_rfl) (by simp) ?_
            refine AllReadyH.cons rfl (fun K hK => ?_) AllReadyH.nil
            go_simp
            refine hK.out _ _ (hHeld) ?_
            clear hK K hHeld
            intro hHeld
            try simp only [Act.put, List.getElem_toArray, List.getElem_cons_zero, List.getElem_cons_succ, List.setIfInBounds_toArray, List.set_cons_zero, List.set_cons_succ]
            refine wpAnyH_ready (rs := [13]) (by kernel_rfl) (by simp) ?_
            refine AllReadyH.cons rfl (fun K hK => ?_) AllReadyH.nil
            have KH := hHeld
            refine step_append_own rfl _ _ 26 rfl (w.heap.size + 3) 4 iB (.bool false) 1 1 Try.underlying26 hiB hzB0 hzB1 hzB2 rfl (by decide) _ k (((List.range k).map ff).flatMap encB) rfl (own_on HF.out.drew.r1 (alloc_ _ _)) ⟨wr.heap.size, 0, none⟩ 1 [.bool b] rfl rfl (fun j u hu => by rw [add_plain, Nat.zero_add]; exact ((Blk.new wr.drew 4 #[.bool b]).cell j).trans (by simpa using hu)) (by simp [Value.oneCell']) (by unfold maxLen; omega) (by omega) (by have := HF.out.box.lt; simp; omega) ?_
            intro v' w6 h2 h3
            have HP1 := Lib.hid (HF.out.drew.app1 (.cells #[.bool b] 4) (v' := v') (by rw [← HFK.out]; exact h2) h3)
            have HB6 := Lib.hid (show Below w.heap.size w w6 from (to_ HF.out.drew.low (alloc_ _ _)).grown h3 (to_ HF.out.drew.low (alloc_ _ _)).size fun r e => by have := (HF.out.r1.lt r e).1; omega)
            clear h2 h3
            obtain ⟨B1, x1, rfl⟩ := own_form HP1.out.1.r1
            have q0 := HP1.out.2.1
            have q1 := HP1.out.2.2
            obtain ⟨wA, hwA⟩ : ∃ x, w6.setCell ⟨w.heap.size + 1 + 1, 0, none⟩ (.slice B1 (k + 1) x1) = x := ⟨_, rfl⟩
            have HWA := Lib.hid hwA
            have HP2 := Lib.hid (show FilR w wA #[.slice fA fn fc, .slice dA dn dc, .int .i64 en] (.slice B1 (k + 1) x1) v2 (k + 1) k ff gg from by rw [← hwA]; exact HP1.out.1)
            refine hK.out _ _ (HXK.out w6 HB6.out) ?_
            clear hK K hHeld
            intro hHeld
            try simp only [Act.put, List.getElem_toArray, List.getElem_cons_zero, List.getElem_cons_succ, List.setIfInBounds_toArray, List.set_cons_zero, List.set_cons_succ]
            clear KH
            refine wpAnyH_take (i := 14) rfl (by kernel_rfl) (by kernel_rfl) (by kernel_rfl) (fun _ _ _ h => h) (Or.inl ⟨by rfl, by intro W hSW; (try dsimp only at hSW); go_simp; try (with_reducible rfl)⟩) hHeld ?_
            try simp only [Act.put, List.getElem_toArray, List.getElem_cons_zero, List.getElem_cons_succ, List.setIfInBounds_toArray, List.set_cons_zero, List.set_cons_succ]
            refine wpAnyH_ready (rs := [15]) (by kernel_rfl) (by simp) ?_
            refine AllReadyH.cons rfl (fun K hK => ?_) AllReadyH.nil
            go_simp
            try go_wp2_with fail
            refine hK.out _ _ (HXK.out wA HP2.out.low) ?_
            clear hK K hHeld
            intro hHeld
            try simp only [Act.put, List.getElem_toArray, List.getElem_cons_zero, List.getElem_cons_succ, List.setIfInBounds_toArray, List.set_cons_zero, List.set_cons_succ]
            refine wpAnyH_done (by kernel_rfl) ?_ _
            refine NoPanic.normal ?_
            clear q0 q1
            clear hHeld
            exact key wA B1 x1 HP2
        case pf1 =>
          intro wA B1 x1 HP2
          have d1 : wA.cell? ⟨w.heap.size, 0, none⟩ = some (.slice fA fn fc) := HP2.out.prog.cell 0
          by_cases hy5 : k < yn
          · have hyI : (k : Int) < (yn : Int) := by omega
            obtain ⟨ay, hay, hy6, hy7⟩ := HMY.out wA HP2.out.low k hy5
            subst hay
            rw [HD9.out] at hy7
            cases d with
            | true =>
              have HG0 := Lib.hid (show (0 : Int) = gg k from by rw [← HGK.out]; rfl)
              have d2 : wA.cell? ⟨w.heap.size + 1 + 1, 1, none⟩ = some v2 := HP2.out.box.cell 1
              go_wp2_with (at_builtin; go_loud (refine wpList_append_own _ rfl _ _ 27 rfl (w.heap.size + 3) 3 iN (.int .i64 0) 1 8 Try.underlying27 hiN hzN0 hzN1 hzN2 rfl (by decide) _ k (((List.range k).map gg).flatMap encI) rfl (own_on HP2.out.r2 (alloc_ _ _)) ⟨wA.heap.size, 0, none⟩ 1 1 [.int .i64 0] rfl rfl (one_new wA _ 3) (by simp [Value.oneCell']) (by unfold maxLen; omega) (by omega) (by have := HP2.out.box.lt; simp; omega) ?_; intro v9 w8 h4 h5 _; have HP3 := Lib.hid (HP2.out.app2 (.cells #[.int .i64 0] 3) (v' := v9) (by rw [← HG0.out]; exact h4) h5); clear h4 h5; obtain ⟨B2, x2, rfl⟩ := own_form HP3.out.1.r2; obtain ⟨wB, hwB⟩ : ∃ x, w8.setCell ⟨w.heap.size + 1 + 1, 1, none⟩ (.slice B2 (k + 1) x2) = x := ⟨_, rfl⟩; have q2 := HP3.out.2.1; have q3 := HP3.out.2.2; have HP4 := Lib.hid (show FilR w wB #[.slice fA fn fc, .slice dA dn dc, .int .i64 en] (.slice B1 (k + 1) x1) (.slice B2 (k + 1) x2) (k + 1) (k + 1) ff gg from by rw [← hwB]; exact HP3.out.1)))
              go_roundw
              case rel => exact ⟨k + 1, _, _, by have := HLT.out; omega, by go_num, Lib.hid (by first | exact HP4.out | exact HP4.out.drew)⟩
              case measure => have := HLT.out; simp [intOf]; omega
            | false =>
              have HG0 := Lib.hid (show v = gg k from by rw [← HGK.out]; rfl)
              go_wp2_with fail
              obtain ⟨ad, hfa, hz9, -, -⟩ := HGF.out wA HP2.out.low k HLT.out
              subst hfa
              clear d1
              have HALL := Lib.hid (show ∀ W, Below w.heap.size w W → W.cell? ⟨w.heap.size, 0, none⟩ = some (.slice (some ad) fn fc) → (fun W => W.cell? ⟨w.heap.size, 0, none⟩ = some (.slice (some ad) fn fc) ∧ W.cell? ⟨(ad.add (k * 13)).block, (ad.add (k * 13)).off + 3, none⟩ = some (.int .i64 cl) ∧ W.cell? ⟨(ad.add (k * 13)).block, (ad.add (k * 13)).off + 4, none⟩ = some (.slice kA kn kc) ∧ W.cell? ⟨(ad.add (k * 13)).block, (ad.add (k * 13)).off + 5, none⟩ = some (.int .i64 pd) ∧ W.cell? ⟨(ad.add (k * 13)).block, (ad.add (k * 13)).off + 6, none⟩ = some (.bool no) ∧ W.cell? ⟨(ad.add (k * 13)).block, (ad.add (k * 13)).off + 7, none⟩ = some (.int .i64 fr) ∧ W.cell? ⟨(ad.add (k * 13)).block, (ad.add (k * 13)).off + 8, none⟩ = some (.int .i64 tt) ∧ W.cell? ⟨(ad.add (k * 13)).block, (ad.add (k * 13)).off + 9, none⟩ = some (.slice lA ln lc) ∧ W.cell? ⟨(ad.add (k * 13)).block, (ad.add (k * 13)).off + 10, none⟩ = some (.slice cA cn cc) ∧ W.cell? ⟨(ad.add (k * 13)).block, (ad.add (k * 13)).off + 11, none⟩ = some (.slice rA rn rc)) W from fun W hb hp => by
                obtain ⟨bd, hbd, _, _, hfc⟩ := HGF.out W hb k HLT.out
                injection hbd with hbd
                subst hbd
                rw [HG9.out] at hfc
                exact ⟨hp, hfc 2 _ rfl, hfc 3 _ rfl, hfc 4 _ rfl, hfc 5 _ rfl, hfc 6 _ rfl, hfc 7 _ rfl, hfc 8 _ rfl, hfc 9 _ rfl, hfc 10 _ rfl⟩)
              refine (fun (key : ∀ (w9 : World), Hid (FilR w w9 #[.slice (some ad) fn fc, .slice dA dn dc, .int .i64 en] (.slice B1 (k + 1) x1) v2 (k + 1) k ff gg) → (?G2 : World → Prop) w9) => ?main2) ?pf2
              case main2 =>
                refine wp_region_noPanic ?_
                refine wp_region_held_drew (S := fun W => W.cell? ⟨w.heap.size, 0, none⟩ = some (.slice (some ad) fn fc) ∧ W.cell? ⟨(ad.add (k * 13)).block, (ad.add (k * 13)).off + 3, none⟩ = some (.int .i64 cl) ∧ W.cell? ⟨(ad.add (k * 13)).block, (ad.add (k * 13)).off + 4, none⟩ = some (.slice kA kn kc) ∧ W.cell? ⟨(ad.add (k * 13)).block, (ad.add (k * 13)).off + 5, none⟩ = some (.int .i64 pd) ∧ W.cell? ⟨(ad.add (k * 13)).block, (ad.add (k * 13)).off + 6, none⟩ = some (.bool no) ∧ W.cell? ⟨(ad.add (k * 13)).block, (ad.add (k * 13)).off + 7, none⟩ = some (.int .i64 fr) ∧ W.cell? ⟨(ad.add (k * 13)).block, (ad.add (k * 13)).off + 8, none⟩ = some (.int .i64 tt) ∧ W.cell? ⟨(ad.add (k * 13)).block, (ad.add (k * 13)).off + 9, none⟩ = some (.slice lA ln lc) ∧ W.cell? ⟨(ad.add (k * 13)).block, (ad.add (k * 13)).off + 10, none⟩ = some (.slice cA cn cc) ∧ W.cell? ⟨(ad.add (k * 13)).block, (ad.add (k * 13)).off + 11, none⟩ = some (.slice rA rn rc)) (by kernel_rfl) (HALL.out wA HP2.out.low (HP2.out.prog.cell 0)) (fun hHeld => ?_)
                refine wpAnyH_take (i := 0) rfl (by kernel_rfl) (by kernel_rfl) (by kernel_rfl) (fun _ _ _ h => h) (Or.inl ⟨by rfl, by intro W hSW; (try dsimp only at hSW); go_simp; try (with_reducible rfl)⟩) hHeld ?_
                try simp only [Act.put, List.getElem_toArray, List.getElem_cons_zero, List.getElem_cons_succ, List.setIfInBounds_toArray, List.set_cons_zero, List.set_cons_succ]
                refine wpAnyH_take (i := 2) rfl (by kernel_rfl) (by kernel_rfl) (by kernel_rfl) (fun _ _ _ h => h) (Or.inl ⟨by rfl, by intro W hSW; (try dsimp only at hSW); go_simp; try (with_reducible rfl)⟩) hHeld ?_
                try simp only [Act.put, List.getElem_toArray, List.getElem_cons_zero, List.getElem_cons_succ, List.setIfInBounds_toArray, List.set_cons_zero, List.set_cons_succ]
                refine wpAnyH_take (i := 3) rfl (by kernel_rfl) (by kernel_rfl) (by kernel_rfl) (fun _ _ _ h => h) (Or.inl ⟨by rfl, by intro W hSW; (try dsimp only at hSW); go_simp; try (with_reducible rfl)⟩) hHeld ?_
                try simp only [Act.put, List.getElem_toArray, List.getElem_cons_zero, List.getElem_cons_succ, List.setIfInBounds_toArray, List.set_cons_zero, List.set_cons_succ]
                refine wpAnyH_take (i := 4) rfl (by kernel_rfl) (by kernel_rfl) (by kernel_rfl) (fun _ _ _ h => h) (Or.inl ⟨by rfl, by intro W hSW; (try dsimp only at hSW); go_simp; try (with_reducible rfl)⟩) hHeld ?_
                try simp only [Act.put, List.getElem_toArray, List.getElem_cons_zero, List.getElem_cons_succ, List.setIfInBounds_toArray, List.set_cons_zero, List.set_cons_succ]
                refine wpAnyH_take (i := 5) rfl (by kernel_rfl) (by kernel_rfl) (by kernel_rfl) (fun _ _ _ h => h) (Or.inl ⟨by rfl, by intro W hSW; (try dsimp only at hSW); go_simp; try (with_reducible rfl)⟩) hHeld ?_
                try simp only [Act.put, List.getElem_toArray, List.getElem_cons_zero, List.getElem_cons_succ, List.setIfInBounds_toArray, List.set_cons_zero, List.set_cons_succ]
                refine wpAnyH_take (i := 6) rfl (by kernel_rfl) (by kernel_rfl) (by kernel_rfl) (fun _ _ _ h => h) (Or.inl ⟨by rfl, by intro W hSW; (try dsimp only at hSW); go_simp; try (with_reducible rfl)⟩) hHeld ?_
                try simp only [Act.put, List.getElem_toArray, List.getElem_cons_zero, List.getElem_cons_succ, List.setIfInBounds_toArray, List.set_cons_zero, List.set_cons_succ]
                refine wpAnyH_take (i := 7) rfl (by kernel_rfl) (by kernel_rfl) (by kernel_rfl) (fun _ _ _ h => h) (Or.inl ⟨by rfl, by intro W hSW; (try dsimp only at hSW); go_simp; try (with_reducible rfl)⟩) hHeld ?_
                try simp only [Act.put, List.getElem_toArray, List.getElem_cons_zero, List.getElem_cons_succ, List.setIfInBounds_toArray, List.set_cons_zero, List.set_cons_succ]
                refine wpAnyH_ready (rs := [1, 8]) (by kernel_rfl) (by simp) ?_
                refine AllReadyH.cons rfl (fun K hK => ?_) (AllReadyH.cons rfl (fun K hK => ?_) AllReadyH.nil)
                · have g1 : wA.cell? ⟨w.heap.size + 1 + 1, 1, none⟩ = some v2 := HP2.out.box.cell 1
                  go_simp
                  refine hK.out _ _ (hHeld) ?_
                  clear hK K hHeld
                  intro hHeld
                  try simp only [Act.put, List.getElem_toArray, List.getElem_cons_zero, List.getElem_cons_succ, List.setIfInBounds_toArray, List.set_cons_zero, List.set_cons_succ]
                  clear g1
                  refine wpAnyH_ready (rs := [8]) (by kernel_rfl) (by simp) ?_
                  refine AllReadyH.cons rfl (fun K hK => ?_) AllReadyH.nil
                  go_simp
                  refine (HFR.out _).mono ?_
                  rintro e w9 ⟨rfl, hb9⟩
                  have HP9 := Lib.hid (HP2.out.on (und hb9))
                  clear hb9
                  try go_wp2_with fail
                  refine hK.out _ _ (HALL.out _ HP9.out.low (HP9.out.prog.cell 0)) ?_
                  clear hK K hHeld
                  intro hHeld
                  try simp only [Act.put, List.getElem_toArray, List.getElem_cons_zero, List.getElem_cons_succ, List.setIfInBounds_toArray, List.set_cons_zero, List.set_cons_succ]
                  refine wpAnyH_ready (rs := [9]) (by kernel_rfl) (by simp) ?_
                  refine AllReadyH.cons rfl (fun K hK => ?_) AllReadyH.nil
                  go_simp
                  refine (HLE.out _).mono ?_
                  rintro e w7 ⟨rfl, hw7⟩
                  rw [hw7]
                  clear hw7
                  try go_wp2_with fail
                  refine hK.out _ _ (hHeld) ?_
                  clear hK K hHeld
                  intro hHeld
                  try simp only [Act.put, List.getElem_toArray, List.getElem_cons_zero, List.getElem_cons_succ, List.setIfInBounds_toArray, List.set_cons_zero, List.set_cons_succ]
                  refine wpAnyH_ready (rs := [10]) (by kernel_rfl) (by simp) ?_
                  refine AllReadyH.cons rfl (fun K hK => ?_) AllReadyH.nil
                  go_simp
                  refine hK.out _ _ (HALL.out _ (to_ HP9.out.low (alloc_ _ _)) ((HP9.out.on (alloc_ _ _)).prog.cell 0)) ?_
                  clear hK K hHeld
                  intro hHeld
                  try simp only [Act.put, List.getElem_toArray, List.getElem_cons_zero, List.getElem_cons_succ, List.setIfInBounds_toArray, List.set_cons_zero, List.set_cons_succ]
                  exact key w9 HP9
                · go_simp
                  refine (HFR.out _).mono ?_
                  rintro e w9 ⟨rfl, hb9⟩
                  have HP9 := Lib.hid (HP2.out.on (und hb9))
                  clear hb9
                  try go_wp2_with fail
                  refine hK.out _ _ (HALL.out _ HP9.out.low (HP9.out.prog.cell 0)) ?_
                  clear hK K hHeld
                  intro hHeld
                  try simp only [Act.put, List.getElem_toArray, List.getElem_cons_zero, List.getElem_cons_succ, List.setIfInBounds_toArray, List.set_cons_zero, List.set_cons_succ]
                  refine wpAnyH_ready (rs := [1, 9]) (by kernel_rfl) (by simp) ?_
                  refine AllReadyH.cons rfl (fun K hK => ?_) (AllReadyH.cons rfl (fun K hK => ?_) AllReadyH.nil)
                  · have g1 : w9.cell? ⟨w.heap.size + 1 + 1, 1, none⟩ = some v2 := HP9.out.box.cell 1
                    go_simp
                    refine hK.out _ _ (hHeld) ?_
                    clear hK K hHeld
                    intro hHeld
                    try simp only [Act.put, List.getElem_toArray, List.getElem_cons_zero, List.getElem_cons_succ, List.setIfInBounds_toArray, List.set_cons_zero, List.set_cons_succ]
                    clear g1
                    refine wpAnyH_ready (rs := [9]) (by kernel_rfl) (by simp) ?_
                    refine AllReadyH.cons rfl (fun K hK => ?_) AllReadyH.nil
                    go_simp
                    refine (HLE.out _).mono ?_
                    rintro e w7 ⟨rfl, hw7⟩
                    rw [hw7]
                    clear hw7
                    try go_wp2_with fail
                    refine hK.out _ _ (hHeld) ?_
                    clear hK K hHeld
                    intro hHeld
                    try simp only [Act.put, List.getElem_toArray, List.getElem_cons_zero, List.getElem_cons_succ, List.setIfInBounds_toArray, List.set_cons_zero, List.set_cons_succ]
                    refine wpAnyH_ready (rs := [10]) (by kernel_rfl) (by simp) ?_
                    refine AllReadyH.cons rfl (fun K hK => ?_) AllReadyH.nil
                    go_simp
                    refine hK.out _ _ (HALL.out _ (to_ HP9.out.low (alloc_ _ _)) ((HP9.out.on (alloc_ _ _)).prog.cell 0)) ?_
                    clear hK K hHeld
                    intro hHeld
                    try simp only [Act.put, List.getElem_toArray, List.getElem_cons_zero, List.getElem_cons_succ, List.setIfInBounds_toArray, List.set_cons_zero, List.set_cons_succ]
                    exact key w9 HP9
                  · go_simp
                    refine (HLE.out _).mono ?_
                    rintro e w7 ⟨rfl, hw7⟩
                    rw [hw7]
                    clear hw7
                    try go_wp2_with fail
                    refine hK.out _ _ (hHeld) ?_
                    clear hK K hHeld
                    intro hHeld
                    try simp only [Act.put, List.getElem_toArray, List.getElem_cons_zero, List.getElem_cons_succ, List.setIfInBounds_toArray, List.set_cons_zero, List.set_cons_succ]
                    refine wpAnyH_ready (rs := [1, 10]) (by kernel_rfl) (by simp) ?_
                    refine AllReadyH.cons rfl (fun K hK => ?_) (AllReadyH.cons rfl (fun K hK => ?_) AllReadyH.nil)
                    · have g1 : w9.cell? ⟨w.heap.size + 1 + 1, 1, none⟩ = some v2 := HP9.out.box.cell 1
                      go_simp
                      refine hK.out _ _ (hHeld) ?_
                      clear hK K hHeld
                      intro hHeld
                      try simp only [Act.put, List.getElem_toArray, List.getElem_cons_zero, List.getElem_cons_succ, List.setIfInBounds_toArray, List.set_cons_zero, List.set_cons_succ]
                      clear g1
                      refine wpAnyH_ready (rs := [10]) (by kernel_rfl) (by simp) ?_
                      refine AllReadyH.cons rfl (fun K hK => ?_) AllReadyH.nil
                      go_simp
                      refine hK.out _ _ (HALL.out _ (to_ HP9.out.low (alloc_ _ _)) ((HP9.out.on (alloc_ _ _)).prog.cell 0)) ?_
                      clear hK K hHeld
                      intro hHeld
                      try simp only [Act.put, List.getElem_toArray, List.getElem_cons_zero, List.getElem_cons_succ, List.setIfInBounds_toArray, List.set_cons_zero, List.set_cons_succ]
                      exact key w9 HP9
                    · go_simp
                      refine hK.out _ _ (HALL.out _ (to_ HP9.out.low (alloc_ _ _)) ((HP9.out.on (alloc_ _ _)).prog.cell 0)) ?_
                      clear hK K hHeld
                      intro hHeld
                      try simp only [Act.put, List.getElem_toArray, List.getElem_cons_zero, List.getElem_cons_succ, List.setIfInBounds_toArray, List.set_cons_zero, List.set_cons_succ]
                      refine wpAnyH_ready (rs := [1]) (by kernel_rfl) (by simp) ?_
                      refine AllReadyH.cons rfl (fun K hK => ?_) AllReadyH.nil
                      have g1 : (w9.alloc (.cells #[.int .i64 v] 3)).cell? ⟨w.heap.size + 1 + 1, 1, none⟩ = some v2 := (HP9.out.on (alloc_ _ (.cells #[.int .i64 v] 3))).box.cell 1
                      go_simp
                      refine hK.out _ _ (hHeld) ?_
                      clear hK K hHeld
                      intro hHeld
                      try simp only [Act.put, List.getElem_toArray, List.getElem_cons_zero, List.getElem_cons_succ, List.setIfInBounds_toArray, List.set_cons_zero, List.set_cons_succ]
                      clear g1
                      exact key w9 HP9
              case pf2 =>
                intro w9 HP9
                refine wpAnyH_ready (rs := [11]) (by kernel_rfl) (by simp) ?_
                refine AllReadyH.cons rfl (fun K hK => ?_) AllReadyH.nil
                refine step_append_own rfl _ _ 27 rfl (w.heap.size + 3) 3 iN (.int .i64 0) 1 8 Try.underlying27 hiN hzN0 hzN1 hzN2 rfl (by decide) _ k (((List.range k).map gg).flatMap encI) rfl (own_on HP9.out.r2 (alloc_ _ _)) ⟨_, 0, none⟩ 1 [.int .i64 v] rfl rfl (fun j u hu => by rw [add_plain, Nat.zero_add]; exact ((Blk.new _ 3 #[.int .i64 v]).cell j).trans (by simpa using hu)) (by simp [Value.oneCell']) (by unfold maxLen; omega) (by omega) (by have := HP9.out.box.lt; simp; omega) ?_
                intro v9 w8 h4 h5
                have HP3 := Lib.hid (HP9.out.app2 (.cells #[.int .i64 v] 3) (v' := v9) (by rw [← HG0.out]; exact h4) h5)
                have HQ8 := Lib.hid (show Below w.heap.size w w8 ∧ w8.cell? ⟨w.heap.size, 0, none⟩ = some (.slice (some ad) fn fc) from ⟨(to_ HP9.out.low (alloc_ _ _)).grown h5 (to_ HP9.out.low (alloc_ _ _)).size fun r e => by have := (HP9.out.r2.lt r e).1; omega, (blk_grown (HP9.out.on (alloc_ _ _)).prog h5 (own_ne HP9.out.r2 (by omega))).cell 0⟩)
                clear h4 h5
                obtain ⟨B2, x2, rfl⟩ := own_form HP3.out.1.r2
                obtain ⟨wB, hwB⟩ : ∃ x, w8.setCell ⟨w.heap.size + 1 + 1, 1, none⟩ (.slice B2 (k + 1) x2) = x := ⟨_, rfl⟩
                have q2 := HP3.out.2.1
                have q3 := HP3.out.2.2
                have HP4 := Lib.hid (show FilR w wB #[.slice (some ad) fn fc, .slice dA dn dc, .int .i64 en] (.slice B1 (k + 1) x1) (.slice B2 (k + 1) x2) (k + 1) (k + 1) ff gg from by rw [← hwB]; exact HP3.out.1)
                refine hK.out _ _ (HALL.out w8 HQ8.out.1 HQ8.out.2) ?_
                clear hK K
                intro hHeld
                try simp only [Act.put, List.getElem_toArray, List.getElem_cons_zero, List.getElem_cons_succ, List.setIfInBounds_toArray, List.set_cons_zero, List.set_cons_succ]
                refine wpAnyH_take (i := 12) rfl (by kernel_rfl) (by kernel_rfl) (by kernel_rfl) (fun _ _ _ h => h) (Or.inl ⟨by rfl, by intro W hSW; (try dsimp only at hSW); go_simp; try (with_reducible rfl)⟩) hHeld ?_
                try simp only [Act.put, List.getElem_toArray, List.getElem_cons_zero, List.getElem_cons_succ, List.setIfInBounds_toArray, List.set_cons_zero, List.set_cons_succ]
                refine wpAnyH_ready (rs := [13]) (by kernel_rfl) (by simp) ?_
                refine AllReadyH.cons rfl (fun K hK => ?_) AllReadyH.nil
                go_simp
                try go_wp2_with fail
                refine hK.out _ _ (HALL.out wB HP4.out.low (HP4.out.prog.cell 0)) ?_
                clear hK K hHeld
                intro hHeld
                try simp only [Act.put, List.getElem_toArray, List.getElem_cons_zero, List.getElem_cons_succ, List.setIfInBounds_toArray, List.set_cons_zero, List.set_cons_succ]
                refine wpAnyH_done (by kernel_rfl) ?_ _
                refine NoPanic.normal ?_
                go_wp2_with fail
                go_roundw
                case rel => exact ⟨k + 1, _, _, by have := HLT.out; omega, by go_num, Lib.hid (by first | exact HP4.out | exact HP4.out.drew | exact HP4.out.drew.drew)⟩
                case measure => have := HLT.out; simp [intOf]; omega
          · have hyI : ¬ (k : Int) < (yn : Int) := by omega
            have hdd : d = false := by rw [← HD9.out]; exact HMO.out k (by omega)
            subst hdd
            have HG0 := Lib.hid (show v = gg k from by rw [← HGK.out]; rfl)
            go_wp2_with fail
            obtain ⟨ad, hfa, hz9, -, -⟩ := HGF.out wA HP2.out.low k HLT.out
            subst hfa
            clear d1
            have HALL := Lib.hid (show ∀ W, Below w.heap.size w W → W.cell? ⟨w.heap.size, 0, none⟩ = some (.slice (some ad) fn fc) → (fun W => W.cell? ⟨w.heap.size, 0, none⟩ = some (.slice (some ad) fn fc) ∧ W.cell? ⟨(ad.add (k * 13)).block, (ad.add (k * 13)).off + 3, none⟩ = some (.int .i64 cl) ∧ W.cell? ⟨(ad.add (k * 13)).block, (ad.add (k * 13)).off + 4, none⟩ = some (.slice kA kn kc) ∧ W.cell? ⟨(ad.add (k * 13)).block, (ad.add (k * 13)).off + 5, none⟩ = some (.int .i64 pd) ∧ W.cell? ⟨(ad.add (k * 13)).block, (ad.add (k * 13)).off + 6, none⟩ = some (.bool no) ∧ W.cell? ⟨(ad.add (k * 13)).block, (ad.add (k * 13)).off + 7, none⟩ = some (.int .i64 fr) ∧ W.cell? ⟨(ad.add (k * 13)).block, (ad.add (k * 13)).off + 8, none⟩ = some (.int .i64 tt) ∧ W.cell? ⟨(ad.add (k * 13)).block, (ad.add (k * 13)).off + 9, none⟩ = some (.slice lA ln lc) ∧ W.cell? ⟨(ad.add (k * 13)).block, (ad.add (k * 13)).off + 10, none⟩ = some (.slice cA cn cc) ∧ W.cell? ⟨(ad.add (k * 13)).block, (ad.add (k * 13)).off + 11, none⟩ = some (.slice rA rn rc)) W from fun W hb hp => by
              obtain ⟨bd, hbd, _, _, hfc⟩ := HGF.out W hb k HLT.out
              injection hbd with hbd
              subst hbd
              rw [HG9.out] at hfc
              exact ⟨hp, hfc 2 _ rfl, hfc 3 _ rfl, hfc 4 _ rfl, hfc 5 _ rfl, hfc 6 _ rfl, hfc 7 _ rfl, hfc 8 _ rfl, hfc 9 _ rfl, hfc 10 _ rfl⟩)
            refine (fun (key : ∀ (w9 : World), Hid (FilR w w9 #[.slice (some ad) fn fc, .slice dA dn dc, .int .i64 en] (.slice B1 (k + 1) x1) v2 (k + 1) k ff gg) → (?G3 : World → Prop) w9) => ?main3) ?pf3
            case main3 =>
              refine wp_region_noPanic ?_
              refine wp_region_held_drew (S := fun W => W.cell? ⟨w.heap.size, 0, none⟩ = some (.slice (some ad) fn fc) ∧ W.cell? ⟨(ad.add (k * 13)).block, (ad.add (k * 13)).off + 3, none⟩ = some (.int .i64 cl) ∧ W.cell? ⟨(ad.add (k * 13)).block, (ad.add (k * 13)).off + 4, none⟩ = some (.slice kA kn kc) ∧ W.cell? ⟨(ad.add (k * 13)).block, (ad.add (k * 13)).off + 5, none⟩ = some (.int .i64 pd) ∧ W.cell? ⟨(ad.add (k * 13)).block, (ad.add (k * 13)).off + 6, none⟩ = some (.bool no) ∧ W.cell? ⟨(ad.add (k * 13)).block, (ad.add (k * 13)).off + 7, none⟩ = some (.int .i64 fr) ∧ W.cell? ⟨(ad.add (k * 13)).block, (ad.add (k * 13)).off + 8, none⟩ = some (.int .i64 tt) ∧ W.cell? ⟨(ad.add (k * 13)).block, (ad.add (k * 13)).off + 9, none⟩ = some (.slice lA ln lc) ∧ W.cell? ⟨(ad.add (k * 13)).block, (ad.add (k * 13)).off + 10, none⟩ = some (.slice cA cn cc) ∧ W.cell? ⟨(ad.add (k * 13)).block, (ad.add (k * 13)).off + 11, none⟩ = some (.slice rA rn rc)) (by kernel_rfl) (HALL.out wA HP2.out.low (HP2.out.prog.cell 0)) (fun hHeld => ?_)
              refine wpAnyH_take (i := 0) rfl (by kernel_rfl) (by kernel_rfl) (by kernel_rfl) (fun _ _ _ h => h) (Or.inl ⟨by rfl, by intro W hSW; (try dsimp only at hSW); go_simp; try (with_reducible rfl)⟩) hHeld ?_
              try simp only [Act.put, List.getElem_toArray, List.getElem_cons_zero, List.getElem_cons_succ, List.setIfInBounds_toArray, List.set_cons_zero, List.set_cons_succ]
              refine wpAnyH_take (i := 2) rfl (by kernel_rfl) (by kernel_rfl) (by kernel_rfl) (fun _ _ _ h => h) (Or.inl ⟨by rfl, by intro W hSW; (try dsimp only at hSW); go_simp; try (with_reducible rfl)⟩) hHeld ?_
              try simp only [Act.put, List.getElem_toArray, List.getElem_cons_zero, List.getElem_cons_succ, List.setIfInBounds_toArray, List.set_cons_zero, List.set_cons_succ]
              refine wpAnyH_take (i := 3) rfl (by kernel_rfl) (by kernel_rfl) (by kernel_rfl) (fun _ _ _ h => h) (Or.inl ⟨by rfl, by intro W hSW; (try dsimp only at hSW); go_simp; try (with_reducible rfl)⟩) hHeld ?_
              try simp only [Act.put, List.getElem_toArray, List.getElem_cons_zero, List.getElem_cons_succ, List.setIfInBounds_toArray, List.set_cons_zero, List.set_cons_succ]
              refine wpAnyH_take (i := 4) rfl (by kernel_rfl) (by kernel_rfl) (by kernel_rfl) (fun _ _ _ h => h) (Or.inl ⟨by rfl, by intro W hSW; (try dsimp only at hSW); go_simp; try (with_reducible rfl)⟩) hHeld ?_
              try simp only [Act.put, List.getElem_toArray, List.getElem_cons_zero, List.getElem_cons_succ, List.setIfInBounds_toArray, List.set_cons_zero, List.set_cons_succ]
              refine wpAnyH_take (i := 5) rfl (by kernel_rfl) (by kernel_rfl) (by kernel_rfl) (fun _ _ _ h => h) (Or.inl ⟨by rfl, by intro W hSW; (try dsimp only at hSW); go_simp; try (with_reducible rfl)⟩) hHeld ?_
              try simp only [Act.put, List.getElem_toArray, List.getElem_cons_zero, List.getElem_cons_succ, List.setIfInBounds_toArray, List.set_cons_zero, List.set_cons_succ]
              refine wpAnyH_take (i := 6) rfl (by kernel_rfl) (by kernel_rfl) (by kernel_rfl) (fun _ _ _ h => h) (Or.inl ⟨by rfl, by intro W hSW; (try dsimp only at hSW); go_simp; try (with_reducible rfl)⟩) hHeld ?_
              try simp only [Act.put, List.getElem_toArray, List.getElem_cons_zero, List.getElem_cons_succ, List.setIfInBounds_toArray, List.set_cons_zero, List.set_cons_succ]
              refine wpAnyH_take (i := 7) rfl (by kernel_rfl) (by kernel_rfl) (by kernel_rfl) (fun _ _ _ h => h) (Or.inl ⟨by rfl, by intro W hSW; (try dsimp only at hSW); go_simp; try (with_reducible rfl)⟩) hHeld ?_
              try simp only [Act.put, List.getElem_toArray, List.getElem_cons_zero, List.getElem_cons_succ, List.setIfInBounds_toArray, List.set_cons_zero, List.set_cons_succ]
              refine wpAnyH_ready (rs := [1, 8]) (by kernel_rfl) (by simp) ?_
              refine AllReadyH.cons rfl (fun K hK => ?_) (AllReadyH.cons rfl (fun K hK => ?_) AllReadyH.nil)
              · have g1 : wA.cell? ⟨w.heap.size + 1 + 1, 1, none⟩ = some v2 := HP2.out.box.cell 1
                go_simp
                refine hK.out _ _ (hHeld) ?_
                clear hK K hHeld
                intro hHeld
                try simp only [Act.put, List.getElem_toArray, List.getElem_cons_zero, List.getElem_cons_succ, List.setIfInBounds_toArray, List.set_cons_zero, List.set_cons_succ]
                clear g1
                refine wpAnyH_ready (rs := [8]) (by kernel_rfl) (by simp) ?_
                refine AllReadyH.cons rfl (fun K hK => ?_) AllReadyH.nil
                go_simp
                refine (HFR.out _).mono ?_
                rintro e w9 ⟨rfl, hb9⟩
                have HP9 := Lib.hid (HP2.out.on (und hb9))
                clear hb9
                try go_wp2_with fail
                refine hK.out _ _ (HALL.out _ HP9.out.low (HP9.out.prog.cell 0)) ?_
                clear hK K hHeld
                intro hHeld
                try simp only [Act.put, List.getElem_toArray, List.getElem_cons_zero, List.getElem_cons_succ, List.setIfInBounds_toArray, List.set_cons_zero, List.set_cons_succ]
                refine wpAnyH_ready (rs := [9]) (by kernel_rfl) (by simp) ?_
                refine AllReadyH.cons rfl (fun K hK => ?_) AllReadyH.nil
                go_simp
                refine (HLE.out _).mono ?_
                rintro e w7 ⟨rfl, hw7⟩
                rw [hw7]
                clear hw7
                try go_wp2_with fail
                refine hK.out _ _ (hHeld) ?_
                clear hK K hHeld
                intro hHeld
                try simp only [Act.put, List.getElem_toArray, List.getElem_cons_zero, List.getElem_cons_succ, List.setIfInBounds_toArray, List.set_cons_zero, List.set_cons_succ]
                refine wpAnyH_ready (rs := [10]) (by kernel_rfl) (by simp) ?_
                refine AllReadyH.cons rfl (fun K hK => ?_) AllReadyH.nil
                go_simp
                refine hK.out _ _ (HALL.out _ (to_ HP9.out.low (alloc_ _ _)) ((HP9.out.on (alloc_ _ _)).prog.cell 0)) ?_
                clear hK K hHeld
                intro hHeld
                try simp only [Act.put, List.getElem_toArray, List.getElem_cons_zero, List.getElem_cons_succ, List.setIfInBounds_toArray, List.set_cons_zero, List.set_cons_succ]
                exact key w9 HP9
              · go_simp
                refine (HFR.out _).mono ?_
                rintro e w9 ⟨rfl, hb9⟩
                have HP9 := Lib.hid (HP2.out.on (und hb9))
                clear hb9
                try go_wp2_with fail
                refine hK.out _ _ (HALL.out _ HP9.out.low (HP9.out.prog.cell 0)) ?_
                clear hK K hHeld
                intro hHeld
                try simp only [Act.put, List.getElem_toArray, List.getElem_cons_zero, List.getElem_cons_succ, List.setIfInBounds_toArray, List.set_cons_zero, List.set_cons_succ]
                refine wpAnyH_ready (rs := [1, 9]) (by kernel_rfl) (by simp) ?_
                refine AllReadyH.cons rfl (fun K hK => ?_) (AllReadyH.cons rfl (fun K hK => ?_) AllReadyH.nil)
                · have g1 : w9.cell? ⟨w.heap.size + 1 + 1, 1, none⟩ = some v2 := HP9.out.box.cell 1
                  go_simp
                  refine hK.out _ _ (hHeld) ?_
                  clear hK K hHeld
                  intro hHeld
                  try simp only [Act.put, List.getElem_toArray, List.getElem_cons_zero, List.getElem_cons_succ, List.setIfInBounds_toArray, List.set_cons_zero, List.set_cons_succ]
                  clear g1
                  refine wpAnyH_ready (rs := [9]) (by kernel_rfl) (by simp) ?_
                  refine AllReadyH.cons rfl (fun K hK => ?_) AllReadyH.nil
                  go_simp
                  refine (HLE.out _).mono ?_
                  rintro e w7 ⟨rfl, hw7⟩
                  rw [hw7]
                  clear hw7
                  try go_wp2_with fail
                  refine hK.out _ _ (hHeld) ?_
                  clear hK K hHeld
                  intro hHeld
                  try simp only [Act.put, List.getElem_toArray, List.getElem_cons_zero, List.getElem_cons_succ, List.setIfInBounds_toArray, List.set_cons_zero, List.set_cons_succ]
                  refine wpAnyH_ready (rs := [10]) (by kernel_rfl) (by simp) ?_
                  refine AllReadyH.cons rfl (fun K hK => ?_) AllReadyH.nil
                  go_simp
                  refine hK.out _ _ (HALL.out _ (to_ HP9.out.low (alloc_ _ _)) ((HP9.out.on (alloc_ _ _)).prog.cell 0)) ?_
                  clear hK K hHeld
                  intro hHeld
                  try simp only [Act.put, List.getElem_toArray, List.getElem_cons_zero, List.getElem_cons_succ, List.setIfInBounds_toArray, List.set_cons_zero, List.set_cons_succ]
                  exact key w9 HP9
                · go_simp
                  refine (HLE.out _).mono ?_
                  rintro e w7 ⟨rfl, hw7⟩
                  rw [hw7]
                  clear hw7
                  try go_wp2_with fail
                  refine hK.out _ _ (hHeld) ?_
                  clear hK K hHeld
                  intro hHeld
                  try simp only [Act.put, List.getElem_toArray, List.getElem_cons_zero, List.getElem_cons_succ, List.setIfInBounds_toArray, List.set_cons_zero, List.set_cons_succ]
                  refine wpAnyH_ready (rs := [1, 10]) (by kernel_rfl) (by simp) ?_
                  refine AllReadyH.cons rfl (fun K hK => ?_) (AllReadyH.cons rfl (fun K hK => ?_) AllReadyH.nil)
                  · have g1 : w9.cell? ⟨w.heap.size + 1 + 1, 1, none⟩ = some v2 := HP9.out.box.cell 1
                    go_simp
                    refine hK.out _ _ (hHeld) ?_
                    clear hK K hHeld
                    intro hHeld
                    try simp only [Act.put, List.getElem_toArray, List.getElem_cons_zero, List.getElem_cons_succ, List.setIfInBounds_toArray, List.set_cons_zero, List.set_cons_succ]
                    clear g1
                    refine wpAnyH_ready (rs := [10]) (by kernel_rfl) (by simp) ?_
                    refine AllReadyH.cons rfl (fun K hK => ?_) AllReadyH.nil
                    go_simp
                    refine hK.out _ _ (HALL.out _ (to_ HP9.out.low (alloc_ _ _)) ((HP9.out.on (alloc_ _ _)).prog.cell 0)) ?_
                    clear hK K hHeld
                    intro hHeld
                    try simp only [Act.put, List.getElem_toArray, List.getElem_cons_zero, List.getElem_cons_succ, List.setIfInBounds_toArray, List.set_cons_zero, List.set_cons_succ]
                    exact key w9 HP9
                  · go_simp
                    refine hK.out _ _ (HALL.out _ (to_ HP9.out.low (alloc_ _ _)) ((HP9.out.on (alloc_ _ _)).prog.cell 0)) ?_
                    clear hK K hHeld
                    intro hHeld
                    try simp only [Act.put, List.getElem_toArray, List.getElem_cons_zero, List.getElem_cons_succ, List.setIfInBounds_toArray, List.set_cons_zero, List.set_cons_succ]
                    refine wpAnyH_ready (rs := [1]) (by kernel_rfl) (by simp) ?_
                    refine AllReadyH.cons rfl (fun K hK => ?_) AllReadyH.nil
                    have g1 : (w9.alloc (.cells #[.int .i64 v] 3)).cell? ⟨w.heap.size + 1 + 1, 1, none⟩ = some v2 := (HP9.out.on (alloc_ _ (.cells #[.int .i64 v] 3))).box.cell 1
                    go_simp
                    refine hK.out _ _ (hHeld) ?_
                    clear hK K hHeld
                    intro hHeld
                    try simp only [Act.put, List.getElem_toArray, List.getElem_cons_zero, List.getElem_cons_succ, List.setIfInBounds_toArray, List.set_cons_zero, List.set_cons_succ]
                    clear g1
                    exact key w9 HP9
            case pf3 =>
              intro w9 HP9
              refine wpAnyH_ready (rs := [11]) (by kernel_rfl) (by simp) ?_
              refine AllReadyH.cons rfl (fun K hK => ?_) AllReadyH.nil
              refine step_append_own rfl _ _ 27 rfl (w.heap.size + 3) 3 iN (.int .i64 0) 1 8 Try.underlying27 hiN hzN0 hzN1 hzN2 rfl (by decide) _ k (((List.range k).map gg).flatMap encI) rfl (own_on HP9.out.r2 (alloc_ _ _)) ⟨_, 0, none⟩ 1 [.int .i64 v] rfl rfl (fun j u hu => by rw [add_plain, Nat.zero_add]; exact ((Blk.new _ 3 #[.int .i64 v]).cell j).trans (by simpa using hu)) (by simp [Value.oneCell']) (by unfold maxLen; omega) (by omega) (by have := HP9.out.box.lt; simp; omega) ?_
              intro v9 w8 h4 h5
              have HP3 := Lib.hid (HP9.out.app2 (.cells #[.int .i64 v] 3) (v' := v9) (by rw [← HG0.out]; exact h4) h5)
              have HQ8 := Lib.hid (show Below w.heap.size w w8 ∧ w8.cell? ⟨w.heap.size, 0, none⟩ = some (.slice (some ad) fn fc) from ⟨(to_ HP9.out.low (alloc_ _ _)).grown h5 (to_ HP9.out.low (alloc_ _ _)).size fun r e => by have := (HP9.out.r2.lt r e).1; omega, (blk_grown (HP9.out.on (alloc_ _ _)).prog h5 (own_ne HP9.out.r2 (by omega))).cell 0⟩)
              clear h4 h5
              obtain ⟨B2, x2, rfl⟩ := own_form HP3.out.1.r2
              obtain ⟨wB, hwB⟩ : ∃ x, w8.setCell ⟨w.heap.size + 1 + 1, 1, none⟩ (.slice B2 (k + 1) x2) = x := ⟨_, rfl⟩
              have q2 := HP3.out.2.1
              have q3 := HP3.out.2.2
              have HP4 := Lib.hid (show FilR w wB #[.slice (some ad) fn fc, .slice dA dn dc, .int .i64 en] (.slice B1 (k + 1) x1) (.slice B2 (k + 1) x2) (k + 1) (k + 1) ff gg from by rw [← hwB]; exact HP3.out.1)
              refine hK.out _ _ (HALL.out w8 HQ8.out.1 HQ8.out.2) ?_
              clear hK K
              intro hHeld
              try simp only [Act.put, List.getElem_toArray, List.getElem_cons_zero, List.getElem_cons_succ, List.setIfInBounds_toArray, List.set_cons_zero, List.set_cons_succ]
              refine wpAnyH_take (i := 12) rfl (by kernel_rfl) (by kernel_rfl) (by kernel_rfl) (fun _ _ _ h => h) (Or.inl ⟨by rfl, by intro W hSW; (try dsimp only at hSW); go_simp; try (with_reducible rfl)⟩) hHeld ?_
              try simp only [Act.put, List.getElem_toArray, List.getElem_cons_zero, List.getElem_cons_succ, List.setIfInBounds_toArray, List.set_cons_zero, List.set_cons_succ]
              refine wpAnyH_ready (rs := [13]) (by kernel_rfl) (by simp) ?_
              refine AllReadyH.cons rfl (fun K hK => ?_) AllReadyH.nil
              go_simp
              try go_wp2_with fail
              refine hK.out _ _ (HALL.out wB HP4.out.low (HP4.out.prog.cell 0)) ?_
              clear hK K hHeld
              intro hHeld
              try simp only [Act.put, List.getElem_toArray, List.getElem_cons_zero, List.getElem_cons_succ, List.setIfInBounds_toArray, List.set_cons_zero, List.set_cons_succ]
              refine wpAnyH_done (by kernel_rfl) ?_ _
              refine NoPanic.normal ?_
              go_wp2_with fail
              go_roundw
              case rel => exact ⟨k + 1, _, _, by have := HLT.out; omega, by go_num, Lib.hid (by first | exact HP4.out | exact HP4.out.drew | exact HP4.out.drew.drew)⟩
              case measure => have := HLT.out; simp [intOf]; omega
      · have hxI : ¬ (k : Int) < (xn : Int) := by omega
        have hbb := HXO.out k (by omega)
        rw [hbb] at HFK
        clear hbb
        obtain ⟨b, hb⟩ : ∃ b, false = b := ⟨_, rfl⟩
        subst hb
        go_wp2_with fail
        refine (fun (key : ∀ (wA : World) (B1 : Option Addr) (x1 : Nat), Hid (FilR w wA #[.slice fA fn fc, .slice dA dn dc, .int .i64 en] (.slice B1 (k + 1) x1) v2 (k + 1) k ff gg) → (?G4 : World → Option Addr → Nat → Prop) wA B1 x1) => ?main4) ?pf4
        case main4 =>
          refine wp_region_noPanic ?_
          refine wp_region_held_drew (S := fun _ => True) (by kernel_rfl) (trivial) (fun hHeld => ?_)
          refine wpAnyH_take (i := 0) rfl (by kernel_rfl) (by kernel_rfl) (by kernel_rfl) (fun _ _ _ h => h) (Or.inl ⟨by rfl, by intro W hSW; (try dsimp only at hSW); go_simp; try (with_reducible rfl)⟩) hHeld ?_
          try simp only [Act.put, List.getElem_toArray, List.getElem_cons_zero, List.getElem_cons_succ, List.setIfInBounds_toArray, List.set_cons_zero, List.set_cons_succ]
          refine wpAnyH_take (i := 2) rfl (by kernel_rfl) (by kernel_rfl) (by kernel_rfl) (fun _ _ _ h => h) (Or.inl ⟨by rfl, by intro W hSW; (try dsimp only at hSW); go_simp; try (with_reducible rfl)⟩) hHeld ?_
          try simp only [Act.put, List.getElem_toArray, List.getElem_cons_zero, List.getElem_cons_succ, List.setIfInBounds_toArray, List.set_cons_zero, List.set_cons_succ]
          refine wpAnyH_take (i := 3) rfl (by kernel_rfl) (by kernel_rfl) (by kernel_rfl) (fun _ _ _ h => h) (Or.inl ⟨by rfl, by intro W hSW; (try dsimp only at hSW); go_simp; try (with_reducible rfl)⟩) hHeld ?_
          try simp only [Act.put, List.getElem_toArray, List.getElem_cons_zero, List.getElem_cons_succ, List.setIfInBounds_toArray, List.set_cons_zero, List.set_cons_succ]
          refine wpAnyH_take (i := 4) rfl (by kernel_rfl) (by kernel_rfl) (by kernel_rfl) (fun _ _ _ h => h) (Or.inl ⟨by rfl, by intro W hSW; (try dsimp only at hSW); go_simp; try (with_reducible rfl)⟩) hHeld ?_
          try simp only [Act.put, List.getElem_toArray, List.getElem_cons_zero, List.getElem_cons_succ, List.setIfInBounds_toArray, List.set_cons_zero, List.set_cons_succ]
          refine wpAnyH_take (i := 5) rfl (by kernel_rfl) (by kernel_rfl) (by kernel_rfl) (fun _ _ _ h => h) (Or.inl ⟨by rfl, by intro W hSW; (try dsimp only at hSW); go_simp; try (with_reducible rfl)⟩) hHeld ?_
          try simp only [Act.put, List.getElem_toArray, List.getElem_cons_zero, List.getElem_cons_succ, List.setIfInBounds_toArray, List.set_cons_zero, List.set_cons_succ]
          refine wpAnyH_take (i := 6) rfl (by kernel_rfl) (by kernel_rfl) (by kernel_rfl) (fun _ _ _ h => h) (Or.inl ⟨by rfl, by intro W hSW; (try dsimp only at hSW); go_simp; try (with_reducible rfl)⟩) hHeld ?_
          try simp only [Act.put, List.getElem_toArray, List.getElem_cons_zero, List.getElem_cons_succ, List.setIfInBounds_toArray, List.set_cons_zero, List.set_cons_succ]
          refine wpAnyH_take (i := 7) rfl (by kernel_rfl) (by kernel_rfl) (by kernel_rfl) (fun _ _ _ h => h) (Or.inr ⟨by rfl, rfl⟩) hHeld ?_
          try simp only [Act.put, List.getElem_toArray, List.getElem_cons_zero, List.getElem_cons_succ, List.setIfInBounds_toArray, List.set_cons_zero, List.set_cons_succ]
          refine wpAnyH_take (i := 8) rfl (by kernel_rfl) (by kernel_rfl) (by kernel_rfl) (fun _ _ _ h => h) (Or.inr ⟨by rfl, rfl⟩) hHeld ?_
          try simp only [Act.put, List.getElem_toArray, List.getElem_cons_zero, List.getElem_cons_succ, List.setIfInBounds_toArray, List.set_cons_zero, List.set_cons_succ]
          refine wpAnyH_take (i := 9) rfl (by kernel_rfl) (by kernel_rfl) (by kernel_rfl) (fun _ _ _ h => h) (Or.inr ⟨by rfl, rfl⟩) hHeld ?_
          try simp only [Act.put, List.getElem_toArray, List.getElem_cons_zero, List.getElem_cons_succ, List.setIfInBounds_toArray, List.set_cons_zero, List.set_cons_succ]
          refine wpAnyH_take (i := 10) rfl (by kernel_rfl) (by kernel_rfl) (by kernel_rfl) (fun _ _ _ h => h) (Or.inr ⟨by rfl, rfl⟩) hHeld ?_
          try simp only [Act.put, List.getElem_toArray, List.getElem_cons_zero, List.getElem_cons_succ, List.setIfInBounds_toArray, List.set_cons_zero, List.set_cons_succ]
          refine wpAnyH_take (i := 11) rfl (by kernel_rfl) (by kernel_rfl) (by kernel_rfl) (fun _ _ _ h => h) (Or.inl ⟨by rfl, by intro W hSW; (try dsimp only at hSW); go_simp; try (with_reducible rfl)⟩) hHeld ?_
          try simp only [Act.put, List.getElem_toArray, List.getElem_cons_zero, List.getElem_cons_succ, List.setIfInBounds_toArray, List.set_cons_zero, List.set_cons_succ]
          refine wpAnyH_ready (rs := [1, 12]) (by kernel_rfl) (by simp) ?_
          refine AllReadyH.cons rfl (fun K hK => ?_) (AllReadyH.cons rfl (fun K hK => ?_) AllReadyH.nil)
          · go_simp
            refine hK.out _ _ (hHeld) ?_
            clear hK K hHeld
            intro hHeld
            try simp only [Act.put, List.getElem_toArray, List.getElem_cons_zero, List.getElem_cons_succ, List.setIfInBounds_toArray, List.set_cons_zero, List.set_cons_succ]
            refine wpAnyH_ready (rs := [12]) (by kernel_rfl) (by simp) ?_
            refine AllReadyH.cons rfl (fun K hK => ?_) AllReadyH.nil
            go_simp
            refine hK.out _ _ (trivial) ?_
            clear hK K hHeld
            intro hHeld
            try simp only [Act.put, List.getElem_toArray, List.getElem_cons_zero, List.getElem_cons_succ, List.setIfInBounds_toArray, List.set_cons_zero, List.set_cons_succ]
            refine wpAnyH_ready (rs := [13]) (by kernel_rfl) (by simp) ?_
            refine AllReadyH.cons rfl (fun K hK => ?_) AllReadyH.nil
            have KH := hHeld
            refine step_append_own rfl _ _ 26 rfl (w.heap.size + 3) 4 iB (.bool false) 1 1 Try.underlying26 hiB hzB0 hzB1 hzB2 rfl (by decide) _ k (((List.range k).map ff).flatMap encB) rfl (own_on HF.out.drew.r1 (alloc_ _ _)) ⟨wr.heap.size, 0, none⟩ 1 [.bool false] rfl rfl (fun j u hu => by rw [add_plain, Nat.zero_add]; exact ((Blk.new wr.drew 4 #[.bool false]).cell j).trans (by simpa using hu)) (by simp [Value.oneCell']) (by unfold maxLen; omega) (by omega) (by have := HF.out.box.lt; simp; omega) ?_
            intro v' w6 h2 h3
            have HP1 := Lib.hid (HF.out.drew.app1 (.cells #[.bool false] 4) (v' := v') (by rw [← HFK.out]; exact h2) h3)
            have HB6 := Lib.hid (show Below w.heap.size w w6 from (to_ HF.out.drew.low (alloc_ _ _)).grown h3 (to_ HF.out.drew.low (alloc_ _ _)).size fun r e => by have := (HF.out.r1.lt r e).1; omega)
            clear h2 h3
            obtain ⟨B1, x1, rfl⟩ := own_form HP1.out.1.r1
            have q0 := HP1.out.2.1
            have q1 := HP1.out.2.2
            obtain ⟨wA, hwA⟩ : ∃ x, w6.setCell ⟨w.heap.size + 1 + 1, 0, none⟩ (.slice B1 (k + 1) x1) = x := ⟨_, rfl⟩
            have HWA := Lib.hid hwA
            have HP2 := Lib.hid (show FilR w wA #[.slice fA fn fc, .slice dA dn dc, .int .i64 en] (.slice B1 (k + 1) x1) v2 (k + 1) k ff gg from by rw [← hwA]; exact HP1.out.1)
            refine hK.out _ _ (trivial) ?_
            clear hK K hHeld
            intro hHeld
            try simp only [Act.put, List.getElem_toArray, List.getElem_cons_zero, List.getElem_cons_succ, List.setIfInBounds_toArray, List.set_cons_zero, List.set_cons_succ]
            clear KH
            refine wpAnyH_take (i := 14) rfl (by kernel_rfl) (by kernel_rfl) (by kernel_rfl) (fun _ _ _ h => h) (Or.inl ⟨by rfl, by intro W hSW; (try dsimp only at hSW); go_simp; try (with_reducible rfl)⟩) hHeld ?_
            try simp only [Act.put, List.getElem_toArray, List.getElem_cons_zero, List.getElem_cons_succ, List.setIfInBounds_toArray, List.set_cons_zero, List.set_cons_succ]
            refine wpAnyH_ready (rs := [15]) (by kernel_rfl) (by simp) ?_
            refine AllReadyH.cons rfl (fun K hK => ?_) AllReadyH.nil
            go_simp
            try go_wp2_with fail
            refine hK.out _ _ (trivial) ?_
            clear hK K hHeld
            intro hHeld
            try simp only [Act.put, List.getElem_toArray, List.getElem_cons_zero, List.getElem_cons_succ, List.setIfInBounds_toArray, List.set_cons_zero, List.set_cons_succ]
            refine wpAnyH_done (by kernel_rfl) ?_ _
            refine NoPanic.normal ?_
            clear q0 q1
            clear hHeld
            exact key wA B1 x1 HP2
          · go_simp
            refine hK.out _ _ (trivial) ?_
            clear hK K hHeld
            intro hHeld
            try simp only [Act.put, List.getElem_toArray, List.getElem_cons_zero, List.getElem_cons_succ, List.setIfInBounds_toArray, List.set_cons_zero, List.set_cons_succ]
            have e0' : (wr.alloc (.cells #[.bool false] 4)).cell? ⟨w.heap.size + 1 + 1, 0, none⟩ = some v1 := cell_on e0 (alloc_ _ _)
            refine wpAnyH_ready (rs := [1]) (by kernel_rfl) (by simp) ?_
            refine AllReadyH.cons rfl (fun K hK => ?_) AllReadyH.nil
            go_simp
            refine hK.out _ _ (hHeld) ?_
            clear hK K hHeld
            intro hHeld
            try simp only [Act.put, List.getElem_toArray, List.getElem_cons_zero, List.getElem_cons_succ, List.setIfInBounds_toArray, List.set_cons_zero, List.set_cons_succ]
            refine wpAnyH_ready (rs := [13]) (by kernel_rfl) (by simp) ?_
            refine AllReadyH.cons rfl (fun K hK => ?_) AllReadyH.nil
            have KH := hHeld
            refine step_append_own rfl _ _ 26 rfl (w.heap.size + 3) 4 iB (.bool false) 1 1 Try.underlying26 hiB hzB0 hzB1 hzB2 rfl (by decide) _ k (((List.range k).map ff).flatMap encB) rfl (own_on HF.out.drew.r1 (alloc_ _ _)) ⟨wr.heap.size, 0, none⟩ 1 [.bool false] rfl rfl (fun j u hu => by rw [add_plain, Nat.zero_add]; exact ((Blk.new wr.drew 4 #[.bool false]).cell j).trans (by simpa using hu)) (by simp [Value.oneCell']) (by unfold maxLen; omega) (by omega) (by have := HF.out.box.lt; simp; omega) ?_
            intro v' w6 h2 h3
            have HP1 := Lib.hid (HF.out.drew.app1 (.cells #[.bool false] 4) (v' := v') (by rw [← HFK.out]; exact h2) h3)
            have HB6 := Lib.hid (show Below w.heap.size w w6 from (to_ HF.out.drew.low (alloc_ _ _)).grown h3 (to_ HF.out.drew.low (alloc_ _ _)).size fun r e => by have := (HF.out.r1.lt r e).1; omega)
            clear h2 h3
            obtain ⟨B1, x1, rfl⟩ := own_form HP1.out.1.r1
            have q0 := HP1.out.2.1
            have q1 := HP1.out.2.2
            obtain ⟨wA, hwA⟩ : ∃ x, w6.setCell ⟨w.heap.size + 1 + 1, 0, none⟩ (.slice B1 (k + 1) x1) = x := ⟨_, rfl⟩
            have HWA := Lib.hid hwA
            have HP2 := Lib.hid (show FilR w wA #[.slice fA fn fc, .slice dA dn dc, .int .i64 en] (.slice B1 (k + 1) x1) v2 (k + 1) k ff gg from by rw [← hwA]; exact HP1.out.1)
            refine hK.out _ _ (trivial) ?_
            clear hK K hHeld
            intro hHeld
            try simp only [Act.put, List.getElem_toArray, List.getElem_cons_zero, List.getElem_cons_succ, List.setIfInBounds_toArray, List.set_cons_zero, List.set_cons_succ]
            clear KH
            refine wpAnyH_take (i := 14) rfl (by kernel_rfl) (by kernel_rfl) (by kernel_rfl) (fun _ _ _ h => h) (Or.inl ⟨by rfl, by intro W hSW; (try dsimp only at hSW); go_simp; try (with_reducible rfl)⟩) hHeld ?_
            try simp only [Act.put, List.getElem_toArray, List.getElem_cons_zero, List.getElem_cons_succ, List.setIfInBounds_toArray, List.set_cons_zero, List.set_cons_succ]
            refine wpAnyH_ready (rs := [15]) (by kernel_rfl) (by simp) ?_
            refine AllReadyH.cons rfl (fun K hK => ?_) AllReadyH.nil
            go_simp
            try go_wp2_with fail
            refine hK.out _ _ (trivial) ?_
            clear hK K hHeld
            intro hHeld
            try simp only [Act.put, List.getElem_toArray, List.getElem_cons_zero, List.getElem_cons_succ, List.setIfInBounds_toArray, List.set_cons_zero, List.set_cons_succ]
            refine wpAnyH_done (by kernel_rfl) ?_ _
            refine NoPanic.normal ?_
            clear q0 q1
            clear hHeld
            exact key wA B1 x1 HP2
        case pf4 =>
          intro wA B1 x1 HP2
          have d1 : wA.cell? ⟨w.heap.size, 0, none⟩ = some (.slice fA fn fc) := HP2.out.prog.cell 0
          by_cases hy5 : k < yn
          · have hyI : (k : Int) < (yn : Int) := by omega
            obtain ⟨ay, hay, hy6, hy7⟩ := HMY.out wA HP2.out.low k hy5
            subst hay
            rw [HD9.out] at hy7
            cases d with
            | true =>
              have HG0 := Lib.hid (show (0 : Int) = gg k from by rw [← HGK.out]; rfl)
              have d2 : wA.cell? ⟨w.heap.size + 1 + 1, 1, none⟩ = some v2 := HP2.out.box.cell 1
              go_wp2_with (at_builtin; go_loud (refine wpList_append_own _ rfl _ _ 27 rfl (w.heap.size + 3) 3 iN (.int .i64 0) 1 8 Try.underlying27 hiN hzN0 hzN1 hzN2 rfl (by decide) _ k (((List.range k).map gg).flatMap encI) rfl (own_on HP2.out.r2 (alloc_ _ _)) ⟨wA.heap.size, 0, none⟩ 1 1 [.int .i64 0] rfl rfl (one_new wA _ 3) (by simp [Value.oneCell']) (by unfold maxLen; omega) (by omega) (by have := HP2.out.box.lt; simp; omega) ?_; intro v9 w8 h4 h5 _; have HP3 := Lib.hid (HP2.out.app2 (.cells #[.int .i64 0] 3) (v' := v9) (by rw [← HG0.out]; exact h4) h5); clear h4 h5; obtain ⟨B2, x2, rfl⟩ := own_form HP3.out.1.r2; obtain ⟨wB, hwB⟩ : ∃ x, w8.setCell ⟨w.heap.size + 1 + 1, 1, none⟩ (.slice B2 (k + 1) x2) = x := ⟨_, rfl⟩; have q2 := HP3.out.2.1; have q3 := HP3.out.2.2; have HP4 := Lib.hid (show FilR w wB #[.slice fA fn fc, .slice dA dn dc, .int .i64 en] (.slice B1 (k + 1) x1) (.slice B2 (k + 1) x2) (k + 1) (k + 1) ff gg from by rw [← hwB]; exact HP3.out.1)))
              go_roundw
              case rel => exact ⟨k + 1, _, _, by have := HLT.out; omega, by go_num, Lib.hid (by first | exact HP4.out | exact HP4.out.drew)⟩
              case measure => have := HLT.out; simp [intOf]; omega
            | false =>
              have HG0 := Lib.hid (show v = gg k from by rw [← HGK.out]; rfl)
              go_wp2_with fail
              obtain ⟨ad, hfa, hz9, -, -⟩ := HGF.out wA HP2.out.low k HLT.out
              subst hfa
              clear d1
              have HALL := Lib.hid (show ∀ W, Below w.heap.size w W → W.cell? ⟨w.heap.size, 0, none⟩ = some (.slice (some ad) fn fc) → (fun W => W.cell? ⟨w.heap.size, 0, none⟩ = some (.slice (some ad) fn fc) ∧ W.cell? ⟨(ad.add (k * 13)).block, (ad.add (k * 13)).off + 3, none⟩ = some (.int .i64 cl) ∧ W.cell? ⟨(ad.add (k * 13)).block, (ad.add (k * 13)).off + 4, none⟩ = some (.slice kA kn kc) ∧ W.cell? ⟨(ad.add (k * 13)).block, (ad.add (k * 13)).off + 5, none⟩ = some (.int .i64 pd) ∧ W.cell? ⟨(ad.add (k * 13)).block, (ad.add (k * 13)).off + 6, none⟩ = some (.bool no) ∧ W.cell? ⟨(ad.add (k * 13)).block, (ad.add (k * 13)).off + 7, none⟩ = some (.int .i64 fr) ∧ W.cell? ⟨(ad.add (k * 13)).block, (ad.add (k * 13)).off + 8, none⟩ = some (.int .i64 tt) ∧ W.cell? ⟨(ad.add (k * 13)).block, (ad.add (k * 13)).off + 9, none⟩ = some (.slice lA ln lc) ∧ W.cell? ⟨(ad.add (k * 13)).block, (ad.add (k * 13)).off + 10, none⟩ = some (.slice cA cn cc) ∧ W.cell? ⟨(ad.add (k * 13)).block, (ad.add (k * 13)).off + 11, none⟩ = some (.slice rA rn rc)) W from fun W hb hp => by
                obtain ⟨bd, hbd, _, _, hfc⟩ := HGF.out W hb k HLT.out
                injection hbd with hbd
                subst hbd
                rw [HG9.out] at hfc
                exact ⟨hp, hfc 2 _ rfl, hfc 3 _ rfl, hfc 4 _ rfl, hfc 5 _ rfl, hfc 6 _ rfl, hfc 7 _ rfl, hfc 8 _ rfl, hfc 9 _ rfl, hfc 10 _ rfl⟩)
              refine (fun (key : ∀ (w9 : World), Hid (FilR w w9 #[.slice (some ad) fn fc, .slice dA dn dc, .int .i64 en] (.slice B1 (k + 1) x1) v2 (k + 1) k ff gg) → (?G5 : World → Prop) w9) => ?main5) ?pf5
              case main5 =>
                refine wp_region_noPanic ?_
                refine wp_region_held_drew (S := fun W => W.cell? ⟨w.heap.size, 0, none⟩ = some (.slice (some ad) fn fc) ∧ W.cell? ⟨(ad.add (k * 13)).block, (ad.add (k * 13)).off + 3, none⟩ = some (.int .i64 cl) ∧ W.cell? ⟨(ad.add (k * 13)).block, (ad.add (k * 13)).off + 4, none⟩ = some (.slice kA kn kc) ∧ W.cell? ⟨(ad.add (k * 13)).block, (ad.add (k * 13)).off + 5, none⟩ = some (.int .i64 pd) ∧ W.cell? ⟨(ad.add (k * 13)).block, (ad.add (k * 13)).off + 6, none⟩ = some (.bool no) ∧ W.cell? ⟨(ad.add (k * 13)).block, (ad.add (k * 13)).off + 7, none⟩ = some (.int .i64 fr) ∧ W.cell? ⟨(ad.add (k * 13)).block, (ad.add (k * 13)).off + 8, none⟩ = some (.int .i64 tt) ∧ W.cell? ⟨(ad.add (k * 13)).block, (ad.add (k * 13)).off + 9, none⟩ = some (.slice lA ln lc) ∧ W.cell? ⟨(ad.add (k * 13)).block, (ad.add (k * 13)).off + 10, none⟩ = some (.slice cA cn cc) ∧ W.cell? ⟨(ad.add (k * 13)).block, (ad.add (k * 13)).off + 11, none⟩ = some (.slice rA rn rc)) (by kernel_rfl) (HALL.out wA HP2.out.low (HP2.out.prog.cell 0)) (fun hHeld => ?_)
                refine wpAnyH_take (i := 0) rfl (by kernel_rfl) (by kernel_rfl) (by kernel_rfl) (fun _ _ _ h => h) (Or.inl ⟨by rfl, by intro W hSW; (try dsimp only at hSW); go_simp; try (with_reducible rfl)⟩) hHeld ?_
                try simp only [Act.put, List.getElem_toArray, List.getElem_cons_zero, List.getElem_cons_succ, List.setIfInBounds_toArray, List.set_cons_zero, List.set_cons_succ]
                refine wpAnyH_take (i := 2) rfl (by kernel_rfl) (by kernel_rfl) (by kernel_rfl) (fun _ _ _ h => h) (Or.inl ⟨by rfl, by intro W hSW; (try dsimp only at hSW); go_simp; try (with_reducible rfl)⟩) hHeld ?_
                try simp only [Act.put, List.getElem_toArray, List.getElem_cons_zero, List.getElem_cons_succ, List.setIfInBounds_toArray, List.set_cons_zero, List.set_cons_succ]
                refine wpAnyH_take (i := 3) rfl (by kernel_rfl) (by kernel_rfl) (by kernel_rfl) (fun _ _ _ h => h) (Or.inl ⟨by rfl, by intro W hSW; (try dsimp only at hSW); go_simp; try (with_reducible rfl)⟩) hHeld ?_
                try simp only [Act.put, List.getElem_toArray, List.getElem_cons_zero, List.getElem_cons_succ, List.setIfInBounds_toArray, List.set_cons_zero, List.set_cons_succ]
                refine wpAnyH_take (i := 4) rfl (by kernel_rfl) (by kernel_rfl) (by kernel_rfl) (fun _ _ _ h => h) (Or.inl ⟨by rfl, by intro W hSW; (try dsimp only at hSW); go_simp; try (with_reducible rfl)⟩) hHeld ?_
                try simp only [Act.put, List.getElem_toArray, List.getElem_cons_zero, List.getElem_cons_succ, List.setIfInBounds_toArray, List.set_cons_zero, List.set_cons_succ]
                refine wpAnyH_take (i := 5) rfl (by kernel_rfl) (by kernel_rfl) (by kernel_rfl) (fun _ _ _ h => h) (Or.inl ⟨by rfl, by intro W hSW; (try dsimp only at hSW); go_simp; try (with_reducible rfl)⟩) hHeld ?_
                try simp only [Act.put, List.getElem_toArray, List.getElem_cons_zero, List.getElem_cons_succ, List.setIfInBounds_toArray, List.set_cons_zero, List.set_cons_succ]
                refine wpAnyH_take (i := 6) rfl (by kernel_rfl) (by kernel_rfl) (by kernel_rfl) (fun _ _ _ h => h) (Or.inl ⟨by rfl, by intro W hSW; (try dsimp only at hSW); go_simp; try (with_reducible rfl)⟩) hHeld ?_
                try simp only [Act.put, List.getElem_toArray, List.getElem_cons_zero, List.getElem_cons_succ, List.setIfInBounds_toArray, List.set_cons_zero, List.set_cons_succ]
                refine wpAnyH_take (i := 7) rfl (by kernel_rfl) (by kernel_rfl) (by kernel_rfl) (fun _ _ _ h => h) (Or.inl ⟨by rfl, by intro W hSW; (try dsimp only at hSW); go_simp; try (with_reducible rfl)⟩) hHeld ?_
                try simp only [Act.put, List.getElem_toArray, List.getElem_cons_zero, List.getElem_cons_succ, List.setIfInBounds_toArray, List.set_cons_zero, List.set_cons_succ]
                refine wpAnyH_ready (rs := [1, 8]) (by kernel_rfl) (by simp) ?_
                refine AllReadyH.cons rfl (fun K hK => ?_) (AllReadyH.cons rfl (fun K hK => ?_) AllReadyH.nil)
                · have g1 : wA.cell? ⟨w.heap.size + 1 + 1, 1, none⟩ = some v2 := HP2.out.box.cell 1
                  go_simp
                  refine hK.out _ _ (hHeld) ?_
                  clear hK K hHeld
                  intro hHeld
                  try simp only [Act.put, List.getElem_toArray, List.getElem_cons_zero, List.getElem_cons_succ, List.setIfInBounds_toArray, List.set_cons_zero, List.set_cons_succ]
                  clear g1
                  refine wpAnyH_ready (rs := [8]) (by kernel_rfl) (by simp) ?_
                  refine AllReadyH.cons rfl (fun K hK => ?_) AllReadyH.nil
                  go_simp
                  refine (HFR.out _).mono ?_
                  rintro e w9 ⟨rfl, hb9⟩
                  have HP9 := Lib.hid (HP2.out.on (und hb9))
                  clear hb9
                  try go_wp2_with fail
                  refine hK.out _ _ (HALL.out _ HP9.out.low (HP9.out.prog.cell 0)) ?_
                  clear hK K hHeld
                  intro hHeld
                  try simp only [Act.put, List.getElem_toArray, List.getElem_cons_zero, List.getElem_cons_succ, List.setIfInBounds_toArray, List.set_cons_zero, List.set_cons_succ]
                  refine wpAnyH_ready (rs := [9]) (by kernel_rfl) (by simp) ?_
                  refine AllReadyH.cons rfl (fun K hK => ?_) AllReadyH.nil
                  go_simp
                  refine (HLE.out _).mono ?_
                  rintro e w7 ⟨rfl, hw7⟩
                  rw [hw7]
                  clear hw7
                  try go_wp2_with fail
                  refine hK.out _ _ (hHeld) ?_
                  clear hK K hHeld
                  intro hHeld
                  try simp only [Act.put, List.getElem_toArray, List.getElem_cons_zero, List.getElem_cons_succ, List.setIfInBounds_toArray, List.set_cons_zero, List.set_cons_succ]
                  refine wpAnyH_ready (rs := [10]) (by kernel_rfl) (by simp) ?_
                  refine AllReadyH.cons rfl (fun K hK => ?_) AllReadyH.nil
                  go_simp
                  refine hK.out _ _ (HALL.out _ (to_ HP9.out.low (alloc_ _ _)) ((HP9.out.on (alloc_ _ _)).prog.cell 0)) ?_
                  clear hK K hHeld
                  intro hHeld
                  try simp only [Act.put, List.getElem_toArray, List.getElem_cons_zero, List.getElem_cons_succ, List.setIfInBounds_toArray, List.set_cons_zero, List.set_cons_succ]
                  exact key w9 HP9
                · go_simp
                  refine (HFR.out _).mono ?_
                  rintro e w9 ⟨rfl, hb9⟩
                  have HP9 := Lib.hid (HP2.out.on (und hb9))
                  clear hb9
                  try go_wp2_with fail
                  refine hK.out _ _ (HALL.out _ HP9.out.low (HP9.out.prog.cell 0)) ?_
                  clear hK K hHeld
                  intro hHeld
                  try simp only [Act.put, List.getElem_toArray, List.getElem_cons_zero, List.getElem_cons_succ, List.setIfInBounds_toArray, List.set_cons_zero, List.set_cons_succ]
                  refine wpAnyH_ready (rs := [1, 9]) (by kernel_rfl) (by simp) ?_
                  refine AllReadyH.cons rfl (fun K hK => ?_) (AllReadyH.cons rfl (fun K hK => ?_) AllReadyH.nil)
                  · have g1 : w9.cell? ⟨w.heap.size + 1 + 1, 1, none⟩ = some v2 := HP9.out.box.cell 1
                    go_simp
                    refine hK.out _ _ (hHeld) ?_
                    clear hK K hHeld
                    intro hHeld
                    try simp only [Act.put, List.getElem_toArray, List.getElem_cons_zero, List.getElem_cons_succ, List.setIfInBounds_toArray, List.set_cons_zero, List.set_cons_succ]
                    clear g1
                    refine wpAnyH_ready (rs := [9]) (by kernel_rfl) (by simp) ?_
                    refine AllReadyH.cons rfl (fun K hK => ?_) AllReadyH.nil
                    go_simp
                    refine (HLE.out _).mono ?_
                    rintro e w7 ⟨rfl, hw7⟩
                    rw [hw7]
                    clear hw7
                    try go_wp2_with fail
                    refine hK.out _ _ (hHeld) ?_
                    clear hK K hHeld
                    intro hHeld
                    try simp only [Act.put, List.getElem_toArray, List.getElem_cons_zero, List.getElem_cons_succ, List.setIfInBounds_toArray, List.set_cons_zero, List.set_cons_succ]
                    refine wpAnyH_ready (rs := [10]) (by kernel_rfl) (by simp) ?_
                    refine AllReadyH.cons rfl (fun K hK => ?_) AllReadyH.nil
                    go_simp
                    refine hK.out _ _ (HALL.out _ (to_ HP9.out.low (alloc_ _ _)) ((HP9.out.on (alloc_ _ _)).prog.cell 0)) ?_
                    clear hK K hHeld
                    intro hHeld
                    try simp only [Act.put, List.getElem_toArray, List.getElem_cons_zero, List.getElem_cons_succ, List.setIfInBounds_toArray, List.set_cons_zero, List.set_cons_succ]
                    exact key w9 HP9
                  · go_simp
                    refine (HLE.out _).mono ?_
                    rintro e w7 ⟨rfl, hw7⟩
                    rw [hw7]
                    clear hw7
                    try go_wp2_with fail
                    refine hK.out _ _ (hHeld) ?_
                    clear hK K hHeld
                    intro hHeld
                    try simp only [Act.put, List.getElem_toArray, List.getElem_cons_zero, List.getElem_cons_succ, List.setIfInBounds_toArray, List.set_cons_zero, List.set_cons_succ]
                    refine wpAnyH_ready (rs := [1, 10]) (by kernel_rfl) (by simp) ?_
                    refine AllReadyH.cons rfl (fun K hK => ?_) (AllReadyH.cons rfl (fun K hK => ?_) AllReadyH.nil)
                    · have g1 : w9.cell? ⟨w.heap.size + 1 + 1, 1, none⟩ = some v2 := HP9.out.box.cell 1
                      go_simp
                      refine hK.out _ _ (hHeld) ?_
                      clear hK K hHeld
                      intro hHeld
                      try simp only [Act.put, List.getElem_toArray, List.getElem_cons_zero, List.getElem_cons_succ, List.setIfInBounds_toArray, List.set_cons_zero, List.set_cons_succ]
                      clear g1
                      refine wpAnyH_ready (rs := [10]) (by kernel_rfl) (by simp) ?_
                      refine AllReadyH.cons rfl (fun K hK => ?_) AllReadyH.nil
                      go_simp
                      refine hK.out _ _ (HALL.out _ (to_ HP9.out.low (alloc_ _ _)) ((HP9.out.on (alloc_ _ _)).prog.cell 0)) ?_
                      clear hK K hHeld
                      intro hHeld
                      try simp only [Act.put, List.getElem_toArray, List.getElem_cons_zero, List.getElem_cons_succ, List.setIfInBounds_toArray, List.set_cons_zero, List.set_cons_succ]
                      exact key w9 HP9
                    · go_simp
                      refine hK.out _ _ (HALL.out _ (to_ HP9.out.low (alloc_ _ _)) ((HP9.out.on (alloc_ _ _)).prog.cell 0)) ?_
                      clear hK K hHeld
                      intro hHeld
                      try simp only [Act.put, List.getElem_toArray, List.getElem_cons_zero, List.getElem_cons_succ, List.setIfInBounds_toArray, List.set_cons_zero, List.set_cons_succ]
                      refine wpAnyH_ready (rs := [1]) (by kernel_rfl) (by simp) ?_
                      refine AllReadyH.cons rfl (fun K hK => ?_) AllReadyH.nil
                      have g1 : (w9.alloc (.cells #[.int .i64 v] 3)).cell? ⟨w.heap.size + 1 + 1, 1, none⟩ = some v2 := (HP9.out.on (alloc_ _ (.cells #[.int .i64 v] 3))).box.cell 1
                      go_simp
                      refine hK.out _ _ (hHeld) ?_
                      clear hK K hHeld
                      intro hHeld
                      try simp only [Act.put, List.getElem_toArray, List.getElem_cons_zero, List.getElem_cons_succ, List.setIfInBounds_toArray, List.set_cons_zero, List.set_cons_succ]
                      clear g1
                      exact key w9 HP9
              case pf5 =>
                intro w9 HP9
                refine wpAnyH_ready (rs := [11]) (by kernel_rfl) (by simp) ?_
                refine AllReadyH.cons rfl (fun K hK => ?_) AllReadyH.nil
                refine step_append_own rfl _ _ 27 rfl (w.heap.size + 3) 3 iN (.int .i64 0) 1 8 Try.underlying27 hiN hzN0 hzN1 hzN2 rfl (by decide) _ k (((List.range k).map gg).flatMap encI) rfl (own_on HP9.out.r2 (alloc_ _ _)) ⟨_, 0, none⟩ 1 [.int .i64 v] rfl rfl (fun j u hu => by rw [add_plain, Nat.zero_add]; exact ((Blk.new _ 3 #[.int .i64 v]).cell j).trans (by simpa using hu)) (by simp [Value.oneCell']) (by unfold maxLen; omega) (by omega) (by have := HP9.out.box.lt; simp; omega) ?_
                intro v9 w8 h4 h5
                have HP3 := Lib.hid (HP9.out.app2 (.cells #[.int .i64 v] 3) (v' := v9) (by rw [← HG0.out]; exact h4) h5)
                have HQ8 := Lib.hid (show Below w.heap.size w w8 ∧ w8.cell? ⟨w.heap.size, 0, none⟩ = some (.slice (some ad) fn fc) from ⟨(to_ HP9.out.low (alloc_ _ _)).grown h5 (to_ HP9.out.low (alloc_ _ _)).size fun r e => by have := (HP9.out.r2.lt r e).1; omega, (blk_grown (HP9.out.on (alloc_ _ _)).prog h5 (own_ne HP9.out.r2 (by omega))).cell 0⟩)
                clear h4 h5
                obtain ⟨B2, x2, rfl⟩ := own_form HP3.out.1.r2
                obtain ⟨wB, hwB⟩ : ∃ x, w8.setCell ⟨w.heap.size + 1 + 1, 1, none⟩ (.slice B2 (k + 1) x2) = x := ⟨_, rfl⟩
                have q2 := HP3.out.2.1
                have q3 := HP3.out.2.2
                have HP4 := Lib.hid (show FilR w wB #[.slice (some ad) fn fc, .slice dA dn dc, .int .i64 en] (.slice B1 (k + 1) x1) (.slice B2 (k + 1) x2) (k + 1) (k + 1) ff gg from by rw [← hwB]; exact HP3.out.1)
                refine hK.out _ _ (HALL.out w8 HQ8.out.1 HQ8.out.2) ?_
                clear hK K
                intro hHeld
                try simp only [Act.put, List.getElem_toArray, List.getElem_cons_zero, List.getElem_cons_succ, List.setIfInBounds_toArray, List.set_cons_zero, List.set_cons_succ]
                refine wpAnyH_take (i := 12) rfl (by kernel_rfl) (by kernel_rfl) (by kernel_rfl) (fun _ _ _ h => h) (Or.inl ⟨by rfl, by intro W hSW; (try dsimp only at hSW); go_simp; try (with_reducible rfl)⟩) hHeld ?_
                try simp only [Act.put, List.getElem_toArray, List.getElem_cons_zero, List.getElem_cons_succ, List.setIfInBounds_toArray, List.set_cons_zero, List.set_cons_succ]
                refine wpAnyH_ready (rs := [13]) (by kernel_rfl) (by simp) ?_
                refine AllReadyH.cons rfl (fun K hK => ?_) AllReadyH.nil
                go_simp
                try go_wp2_with fail
                refine hK.out _ _ (HALL.out wB HP4.out.low (HP4.out.prog.cell 0)) ?_
                clear hK K hHeld
                intro hHeld
                try simp only [Act.put, List.getElem_toArray, List.getElem_cons_zero, List.getElem_cons_succ, List.setIfInBounds_toArray, List.set_cons_zero, List.set_cons_succ]
                refine wpAnyH_done (by kernel_rfl) ?_ _
                refine NoPanic.normal ?_
                go_wp2_with fail
                go_roundw
                case rel => exact ⟨k + 1, _, _, by have := HLT.out; omega, by go_num, Lib.hid (by first | exact HP4.out | exact HP4.out.drew | exact HP4.out.drew.drew)⟩
                case measure => have := HLT.out; simp [intOf]; omega
          · have hyI : ¬ (k : Int) < (yn : Int) := by omega
            have hdd : d = false := by rw [← HD9.out]; exact HMO.out k (by omega)
            subst hdd
            have HG0 := Lib.hid (show v = gg k from by rw [← HGK.out]; rfl)
            go_wp2_with fail
            obtain ⟨ad, hfa, hz9, -, -⟩ := HGF.out wA HP2.out.low k HLT.out
            subst hfa
            clear d1
            have HALL := Lib.hid (show ∀ W, Below w.heap.size w W → W.cell? ⟨w.heap.size, 0, none⟩ = some (.slice (some ad) fn fc) → (fun W => W.cell? ⟨w.heap.size, 0, none⟩ = some (.slice (some ad) fn fc) ∧ W.cell? ⟨(ad.add (k * 13)).block, (ad.add (k * 13)).off + 3, none⟩ = some (.int .i64 cl) ∧ W.cell? ⟨(ad.add (k * 13)).block, (ad.add (k * 13)).off + 4, none⟩ = some (.slice kA kn kc) ∧ W.cell? ⟨(ad.add (k * 13)).block, (ad.add (k * 13)).off + 5, none⟩ = some (.int .i64 pd) ∧ W.cell? ⟨(ad.add (k * 13)).block, (ad.add (k * 13)).off + 6, none⟩ = some (.bool no) ∧ W.cell? ⟨(ad.add (k * 13)).block, (ad.add (k * 13)).off + 7, none⟩ = some (.int .i64 fr) ∧ W.cell? ⟨(ad.add (k * 13)).block, (ad.add (k * 13)).off + 8, none⟩ = some (.int .i64 tt) ∧ W.cell? ⟨(ad.add (k * 13)).block, (ad.add (k * 13)).off + 9, none⟩ = some (.slice lA ln lc) ∧ W.cell? ⟨(ad.add (k * 13)).block, (ad.add (k * 13)).off + 10, none⟩ = some (.slice cA cn cc) ∧ W.cell? ⟨(ad.add (k * 13)).block, (ad.add (k * 13)).off + 11, none⟩ = some (.slice rA rn rc)) W from fun W hb hp => by
              obtain ⟨bd, hbd, _, _, hfc⟩ := HGF.out W hb k HLT.out
              injection hbd with hbd
              subst hbd
              rw [HG9.out] at hfc
              exact ⟨hp, hfc 2 _ rfl, hfc 3 _ rfl, hfc 4 _ rfl, hfc 5 _ rfl, hfc 6 _ rfl, hfc 7 _ rfl, hfc 8 _ rfl, hfc 9 _ rfl, hfc 10 _ rfl⟩)
            refine (fun (key : ∀ (w9 : World), Hid (FilR w w9 #[.slice (some ad) fn fc, .slice dA dn dc, .int .i64 en] (.slice B1 (k + 1) x1) v2 (k + 1) k ff gg) → (?G6 : World → Prop) w9) => ?main6) ?pf6
            case main6 =>
              refine wp_region_noPanic ?_
              refine wp_region_held_drew (S := fun W => W.cell? ⟨w.heap.size, 0, none⟩ = some (.slice (some ad) fn fc) ∧ W.cell? ⟨(ad.add (k * 13)).block, (ad.add (k * 13)).off + 3, none⟩ = some (.int .i64 cl) ∧ W.cell? ⟨(ad.add (k * 13)).block, (ad.add (k * 13)).off + 4, none⟩ = some (.slice kA kn kc) ∧ W.cell? ⟨(ad.add (k * 13)).block, (ad.add (k * 13)).off + 5, none⟩ = some (.int .i64 pd) ∧ W.cell? ⟨(ad.add (k * 13)).block, (ad.add (k * 13)).off + 6, none⟩ = some (.bool no) ∧ W.cell? ⟨(ad.add (k * 13)).block, (ad.add (k * 13)).off + 7, none⟩ = some (.int .i64 fr) ∧ W.cell? ⟨(ad.add (k * 13)).block, (ad.add (k * 13)).off + 8, none⟩ = some (.int .i64 tt) ∧ W.cell? ⟨(ad.add (k * 13)).block, (ad.add (k * 13)).off + 9, none⟩ = some (.slice lA ln lc) ∧ W.cell? ⟨(ad.add (k * 13)).block, (ad.add (k * 13)).off + 10, none⟩ = some (.slice cA cn cc) ∧ W.cell? ⟨(ad.add (k * 13)).block, (ad.add (k * 13)).off + 11, none⟩ = some (.slice rA rn rc)) (by kernel_rfl) (HALL.out wA HP2.out.low (HP2.out.prog.cell 0)) (fun hHeld => ?_)
              refine wpAnyH_take (i := 0) rfl (by kernel_rfl) (by kernel_rfl) (by kernel_rfl) (fun _ _ _ h => h) (Or.inl ⟨by rfl, by intro W hSW; (try dsimp only at hSW); go_simp; try (with_reducible rfl)⟩) hHeld ?_
              try simp only [Act.put, List.getElem_toArray, List.getElem_cons_zero, List.getElem_cons_succ, List.setIfInBounds_toArray, List.set_cons_zero, List.set_cons_succ]
              refine wpAnyH_take (i := 2) rfl (by kernel_rfl) (by kernel_rfl) (by kernel_rfl) (fun _ _ _ h => h) (Or.inl ⟨by rfl, by intro W hSW; (try dsimp only at hSW); go_simp; try (with_reducible rfl)⟩) hHeld ?_
              try simp only [Act.put, List.getElem_toArray, List.getElem_cons_zero, List.getElem_cons_succ, List.setIfInBounds_toArray, List.set_cons_zero, List.set_cons_succ]
              refine wpAnyH_take (i := 3) rfl (by kernel_rfl) (by kernel_rfl) (by kernel_rfl) (fun _ _ _ h => h) (Or.inl ⟨by rfl, by intro W hSW; (try dsimp only at hSW); go_simp; try (with_reducible rfl)⟩) hHeld ?_
              try simp only [Act.put, List.getElem_toArray, List.getElem_cons_zero, List.getElem_cons_succ, List.setIfInBounds_toArray, List.set_cons_zero, List.set_cons_succ]
              refine wpAnyH_take (i := 4) rfl (by kernel_rfl) (by kernel_rfl) (by kernel_rfl) (fun _ _ _ h => h) (Or.inl ⟨by rfl, by intro W hSW; (try dsimp only at hSW); go_simp; try (with_reducible rfl)⟩) hHeld ?_
              try simp only [Act.put, List.getElem_toArray, List.getElem_cons_zero, List.getElem_cons_succ, List.setIfInBounds_toArray, List.set_cons_zero, List.set_cons_succ]
              refine wpAnyH_take (i := 5) rfl (by kernel_rfl) (by kernel_rfl) (by kernel_rfl) (fun _ _ _ h => h) (Or.inl ⟨by rfl, by intro W hSW; (try dsimp only at hSW); go_simp; try (with_reducible rfl)⟩) hHeld ?_
              try simp only [Act.put, List.getElem_toArray, List.getElem_cons_zero, List.getElem_cons_succ, List.setIfInBounds_toArray, List.set_cons_zero, List.set_cons_succ]
              refine wpAnyH_take (i := 6) rfl (by kernel_rfl) (by kernel_rfl) (by kernel_rfl) (fun _ _ _ h => h) (Or.inl ⟨by rfl, by intro W hSW; (try dsimp only at hSW); go_simp; try (with_reducible rfl)⟩) hHeld ?_
              try simp only [Act.put, List.getElem_toArray, List.getElem_cons_zero, List.getElem_cons_succ, List.setIfInBounds_toArray, List.set_cons_zero, List.set_cons_succ]
              refine wpAnyH_take (i := 7) rfl (by kernel_rfl) (by kernel_rfl) (by kernel_rfl) (fun _ _ _ h => h) (Or.inl ⟨by rfl, by intro W hSW; (try dsimp only at hSW); go_simp; try (with_reducible rfl)⟩) hHeld ?_
              try simp only [Act.put, List.getElem_toArray, List.getElem_cons_zero, List.getElem_cons_succ, List.setIfInBounds_toArray, List.set_cons_zero, List.set_cons_succ]
              refine wpAnyH_ready (rs := [1, 8]) (by kernel_rfl) (by simp) ?_
              refine AllReadyH.cons rfl (fun K hK => ?_) (AllReadyH.cons rfl (fun K hK => ?_) AllReadyH.nil)
              · have g1 : wA.cell? ⟨w.heap.size + 1 + 1, 1, none⟩ = some v2 := HP2.out.box.cell 1
                go_simp
                refine hK.out _ _ (hHeld) ?_
                clear hK K hHeld
                intro hHeld
                try simp only [Act.put, List.getElem_toArray, List.getElem_cons_zero, List.getElem_cons_succ, List.setIfInBounds_toArray, List.set_cons_zero, List.set_cons_succ]
                clear g1
                refine wpAnyH_ready (rs := [8]) (by kernel_rfl) (by simp) ?_
                refine AllReadyH.cons rfl (fun K hK => ?_) AllReadyH.nil
                go_simp
                refine (HFR.out _).mono ?_
                rintro e w9 ⟨rfl, hb9⟩
                have HP9 := Lib.hid (HP2.out.on (und hb9))
                clear hb9
                try go_wp2_with fail
                refine hK.out _ _ (HALL.out _ HP9.out.low (HP9.out.prog.cell 0)) ?_
                clear hK K hHeld
                intro hHeld
                try simp only [Act.put, List.getElem_toArray, List.getElem_cons_zero, List.getElem_cons_succ, List.setIfInBounds_toArray, List.set_cons_zero, List.set_cons_succ]
                refine wpAnyH_ready (rs := [9]) (by kernel_rfl) (by simp) ?_
                refine AllReadyH.cons rfl (fun K hK => ?_) AllReadyH.nil
                go_simp
                refine (HLE.out _).mono ?_
                rintro e w7 ⟨rfl, hw7⟩
                rw [hw7]
                clear hw7
                try go_wp2_with fail
                refine hK.out _ _ (hHeld) ?_
                clear hK K hHeld
                intro hHeld
                try simp only [Act.put, List.getElem_toArray, List.getElem_cons_zero, List.getElem_cons_succ, List.setIfInBounds_toArray, List.set_cons_zero, List.set_cons_succ]
                refine wpAnyH_ready (rs := [10]) (by kernel_rfl) (by simp) ?_
                refine AllReadyH.cons rfl (fun K hK => ?_) AllReadyH.nil
                go_simp
                refine hK.out _ _ (HALL.out _ (to_ HP9.out.low (alloc_ _ _)) ((HP9.out.on (alloc_ _ _)).prog.cell 0)) ?_
                clear hK K hHeld
                intro hHeld
                try simp only [Act.put, List.getElem_toArray, List.getElem_cons_zero, List.getElem_cons_succ, List.setIfInBounds_toArray, List.set_cons_zero, List.set_cons_succ]
                exact key w9 HP9
              · go_simp
                refine (HFR.out _).mono ?_
                rintro e w9 ⟨rfl, hb9⟩
                have HP9 := Lib.hid (HP2.out.on (und hb9))
                clear hb9
                try go_wp2_with fail
                refine hK.out _ _ (HALL.out _ HP9.out.low (HP9.out.prog.cell 0)) ?_
                clear hK K hHeld
                intro hHeld
                try simp only [Act.put, List.getElem_toArray, List.getElem_cons_zero, List.getElem_cons_succ, List.setIfInBounds_toArray, List.set_cons_zero, List.set_cons_succ]
                refine wpAnyH_ready (rs := [1, 9]) (by kernel_rfl) (by simp) ?_
                refine AllReadyH.cons rfl (fun K hK => ?_) (AllReadyH.cons rfl (fun K hK => ?_) AllReadyH.nil)
                · have g1 : w9.cell? ⟨w.heap.size + 1 + 1, 1, none⟩ = some v2 := HP9.out.box.cell 1
                  go_simp
                  refine hK.out _ _ (hHeld) ?_
                  clear hK K hHeld
                  intro hHeld
                  try simp only [Act.put, List.getElem_toArray, List.getElem_cons_zero, List.getElem_cons_succ, List.setIfInBounds_toArray, List.set_cons_zero, List.set_cons_succ]
                  clear g1
                  refine wpAnyH_ready (rs := [9]) (by kernel_rfl) (by simp) ?_
                  refine AllReadyH.cons rfl (fun K hK => ?_) AllReadyH.nil
                  go_simp
                  refine (HLE.out _).mono ?_
                  rintro e w7 ⟨rfl, hw7⟩
                  rw [hw7]
                  clear hw7
                  try go_wp2_with fail
                  refine hK.out _ _ (hHeld) ?_
                  clear hK K hHeld
                  intro hHeld
                  try simp only [Act.put, List.getElem_toArray, List.getElem_cons_zero, List.getElem_cons_succ, List.setIfInBounds_toArray, List.set_cons_zero, List.set_cons_succ]
                  refine wpAnyH_ready (rs := [10]) (by kernel_rfl) (by simp) ?_
                  refine AllReadyH.cons rfl (fun K hK => ?_) AllReadyH.nil
                  go_simp
                  refine hK.out _ _ (HALL.out _ (to_ HP9.out.low (alloc_ _ _)) ((HP9.out.on (alloc_ _ _)).prog.cell 0)) ?_
                  clear hK K hHeld
                  intro hHeld
                  try simp only [Act.put, List.getElem_toArray, List.getElem_cons_zero, List.getElem_cons_succ, List.setIfInBounds_toArray, List.set_cons_zero, List.set_cons_succ]
                  exact key w9 HP9
                · go_simp
                  refine (HLE.out _).mono ?_
                  rintro e w7 ⟨rfl, hw7⟩
                  rw [hw7]
                  clear hw7
                  try go_wp2_with fail
                  refine hK.out _ _ (hHeld) ?_
                  clear hK K hHeld
                  intro hHeld
                  try simp only [Act.put, List.getElem_toArray, List.getElem_cons_zero, List.getElem_cons_succ, List.setIfInBounds_toArray, List.set_cons_zero, List.set_cons_succ]
                  refine wpAnyH_ready (rs := [1, 10]) (by kernel_rfl) (by simp) ?_
                  refine AllReadyH.cons rfl (fun K hK => ?_) (AllReadyH.cons rfl (fun K hK => ?_) AllReadyH.nil)
                  · have g1 : w9.cell? ⟨w.heap.size + 1 + 1, 1, none⟩ = some v2 := HP9.out.box.cell 1
                    go_simp
                    refine hK.out _ _ (hHeld) ?_
                    clear hK K hHeld
                    intro hHeld
                    try simp only [Act.put, List.getElem_toArray, List.getElem_cons_zero, List.getElem_cons_succ, List.setIfInBounds_toArray, List.set_cons_zero, List.set_cons_succ]
                    clear g1
                    refine wpAnyH_ready (rs := [10]) (by kernel_rfl) (by simp) ?_
                    refine AllReadyH.cons rfl (fun K hK => ?_) AllReadyH.nil
                    go_simp
                    refine hK.out _ _ (HALL.out _ (to_ HP9.out.low (alloc_ _ _)) ((HP9.out.on (alloc_ _ _)).prog.cell 0)) ?_
                    clear hK K hHeld
                    intro hHeld
                    try simp only [Act.put, List.getElem_toArray, List.getElem_cons_zero, List.getElem_cons_succ, List.setIfInBounds_toArray, List.set_cons_zero, List.set_cons_succ]
                    exact key w9 HP9
                  · go_simp
                    refine hK.out _ _ (HALL.out _ (to_ HP9.out.low (alloc_ _ _)) ((HP9.out.on (alloc_ _ _)).prog.cell 0)) ?_
                    clear hK K hHeld
                    intro hHeld
                    try simp only [Act.put, List.getElem_toArray, List.getElem_cons_zero, List.getElem_cons_succ, List.setIfInBounds_toArray, List.set_cons_zero, List.set_cons_succ]
                    refine wpAnyH_ready (rs := [1]) (by kernel_rfl) (by simp) ?_
                    refine AllReadyH.cons rfl (fun K hK => ?_) AllReadyH.nil
                    have g1 : (w9.alloc (.cells #[.int .i64 v] 3)).cell? ⟨w.heap.size + 1 + 1, 1, none⟩ = some v2 := (HP9.out.on (alloc_ _ (.cells #[.int .i64 v] 3))).box.cell 1
                    go_simp
                    refine hK.out _ _ (hHeld) ?_
                    clear hK K hHeld
                    intro hHeld
                    try simp only [Act.put, List.getElem_toArray, List.getElem_cons_zero, List.getElem_cons_succ, List.setIfInBounds_toArray, List.set_cons_zero, List.set_cons_succ]
                    clear g1
                    exact key w9 HP9
            case pf6 =>
              intro w9 HP9
              refine wpAnyH_ready (rs := [11]) (by kernel_rfl) (by simp) ?_
              refine AllReadyH.cons rfl (fun K hK => ?_) AllReadyH.nil
              refine step_append_own rfl _ _ 27 rfl (w.heap.size + 3) 3 iN (.int .i64 0) 1 8 Try.underlying27 hiN hzN0 hzN1 hzN2 rfl (by decide) _ k (((List.range k).map gg).flatMap encI) rfl (own_on HP9.out.r2 (alloc_ _ _)) ⟨_, 0, none⟩ 1 [.int .i64 v] rfl rfl (fun j u hu => by rw [add_plain, Nat.zero_add]; exact ((Blk.new _ 3 #[.int .i64 v]).cell j).trans (by simpa using hu)) (by simp [Value.oneCell']) (by unfold maxLen; omega) (by omega) (by have := HP9.out.box.lt; simp; omega) ?_
              intro v9 w8 h4 h5
              have HP3 := Lib.hid (HP9.out.app2 (.cells #[.int .i64 v] 3) (v' := v9) (by rw [← HG0.out]; exact h4) h5)
              have HQ8 := Lib.hid (show Below w.heap.size w w8 ∧ w8.cell? ⟨w.heap.size, 0, none⟩ = some (.slice (some ad) fn fc) from ⟨(to_ HP9.out.low (alloc_ _ _)).grown h5 (to_ HP9.out.low (alloc_ _ _)).size fun r e => by have := (HP9.out.r2.lt r e).1; omega, (blk_grown (HP9.out.on (alloc_ _ _)).prog h5 (own_ne HP9.out.r2 (by omega))).cell 0⟩)
              clear h4 h5
              obtain ⟨B2, x2, rfl⟩ := own_form HP3.out.1.r2
              obtain ⟨wB, hwB⟩ : ∃ x, w8.setCell ⟨w.heap.size + 1 + 1, 1, none⟩ (.slice B2 (k + 1) x2) = x := ⟨_, rfl⟩
              have q2 := HP3.out.2.1
              have q3 := HP3.out.2.2
              have HP4 := Lib.hid (show FilR w wB #[.slice (some ad) fn fc, .slice dA dn dc, .int .i64 en] (.slice B1 (k + 1) x1) (.slice B2 (k + 1) x2) (k + 1) (k + 1) ff gg from by rw [← hwB]; exact HP3.out.1)
              refine hK.out _ _ (HALL.out w8 HQ8.out.1 HQ8.out.2) ?_
              clear hK K
              intro hHeld
              try simp only [Act.put, List.getElem_toArray, List.getElem_cons_zero, List.getElem_cons_succ, List.setIfInBounds_toArray, List.set_cons_zero, List.set_cons_succ]
              refine wpAnyH_take (i := 12) rfl (by kernel_rfl) (by kernel_rfl) (by kernel_rfl) (fun _ _ _ h => h) (Or.inl ⟨by rfl, by intro W hSW; (try dsimp only at hSW); go_simp; try (with_reducible rfl)⟩) hHeld ?_
              try simp only [Act.put, List.getElem_toArray, List.getElem_cons_zero, List.getElem_cons_succ, List.setIfInBounds_toArray, List.set_cons_zero, List.set_cons_succ]
              refine wpAnyH_ready (rs := [13]) (by kernel_rfl) (by simp) ?_
              refine AllReadyH.cons rfl (fun K hK => ?_) AllReadyH.nil
              go_simp
              try go_wp2_with fail
              refine hK.out _ _ (HALL.out wB HP4.out.low (HP4.out.prog.cell 0)) ?_
              clear hK K hHeld
              intro hHeld
              try simp only [Act.put, List.getElem_toArray, List.getElem_cons_zero, List.getElem_cons_succ, List.setIfInBounds_toArray, List.set_cons_zero, List.set_cons_succ]
              refine wpAnyH_done (by kernel_rfl) ?_ _
              refine NoPanic.normal ?_
              go_wp2_with fail
              go_roundw
              case rel => exact ⟨k + 1, _, _, by have := HLT.out; omega, by go_num, Lib.hid (by first | exact HP4.out | exact HP4.out.drew | exact HP4.out.drew.drew)⟩
              case measure => have := HLT.out; simp [intOf]; omega
    · obtain rfl : k = fn := by omega
      obtain ⟨A1, c1, rfl⟩ := own_form HF.out.r1
      obtain ⟨A2, c2, rfl⟩ := own_form HF.out.r2
      have e0 : wr.cell? ⟨w.heap.size + 1 + 1, 0, none⟩ = some (.slice A1 k c1) := HF.out.box.cell 0
      have e1 : wr.cell? ⟨w.heap.size + 1 + 1, 1, none⟩ = some (.slice A2 k c2) := HF.out.box.cell 1
      have e2 : wr.cell? ⟨w.heap.size + 1, 0, none⟩ = some (.slice none 0 0) := HF.out.res.cell 0
      have e3 : wr.cell? ⟨w.heap.size + 1, 1, none⟩ = some (.slice none 0 0) := HF.out.res.cell 1
      have e4 := HF.out.res.frozen 0
      have e5 := HF.out.res.frozen 1
      have hr := (HF.out.res.stored 0 (.slice A1 k c1)).stored 1 (.slice A2 k c2)
      have HR0 := Lib.hid (show ((wr.setCell ⟨w.heap.size + 1, 0, none⟩ (.slice A1 k c1)).setCell ⟨w.heap.size + 1, 1, none⟩ (.slice A2 k c2)).cell? ⟨w.heap.size + 1, 0, none⟩ = some (.slice A1 k c1) from (hr.cell 0).trans (by simp))
      have HR1 := Lib.hid (show ((wr.setCell ⟨w.heap.size + 1, 0, none⟩ (.slice A1 k c1)).setCell ⟨w.heap.size + 1, 1, none⟩ (.slice A2 k c2)).cell? ⟨w.heap.size + 1, 1, none⟩ = some (.slice A2 k c2) from (hr.cell 1).trans (by simp))
      clear hr
      go_wp2_with fail
      refine bodyPost_ret (v := .agg #[.slice A1 k c1, .slice A2 k c2]) (by simp [results, Try.results20, go_sem, HR0.out, HR1.out]) rfl ?_
      exact plA_own HF.out rfl
end Go.Proofs.Ytnenmgefgdpkdaa.Bo
