/-
  WALKS of layer 28: Lean: the program's.
-/
import Derived.Test.YtnenmgefgdpkdaaTh
namespace Go.Proofs.Ytnenmgefgdpkdaa.Bo
open Go.RowKit Go.Maps
open Mem Rf
set_option linter.unusedSimpArgs false
set_option linter.unusedVariables false

theorem und {B : Nat} {w W : World} (h : Below B w.drew W) : Below B w W := ⟨h.os, h.tape, h.output, h.size, h.block⟩
theorem Fil.drew {w wr : World} {PC : Array Value} {PB b1 b2 n k : Nat} {f : Nat → Bool} {g : Nat → Int} (h : Fil w wr PC PB b1 b2 n k f g) : Fil w wr.drew PC PB b1 b2 n k f g := ⟨below_drewN h.low 1, h.prog, h.res, h.box, h.r1, h.r2, h.ne⟩

set_option maxRecDepth 100000 in
set_option maxHeartbeats 4000000 in
theorem lean_any (w : World) (P : Pgm) (hfr : Wd 13 encGf w w.heap.size P.fA P.fn P.fc P.fs) (hfn : P.fn ≤ 1000) (hkn : ∀ a, a < P.fn → (gfAt P.fs a).F.kinds.2.1 ≤ 1000) (xA yA : Option Addr) (xn xc yn yc : Nat) (xl yl : List Bool) (hx : BL w xA xn xc xl) (hy : BL w yA yn yc yl) : Calls Try.prog 19 #[pgV P, .slice xA xn xc, .slice yA yn yc] w (plA w P.fn (kpOf xl) (ckLean P yl)) := by
  have HGF := Lib.hid (fun W (hb : Below w.heap.size w W) a (ha : a < P.fn) => gf_at (hfr.below hb) ha)
  have HE := Lib.hid (fun W => empty_any W P hfn)
  have HMX := Lib.hid (fun W (hb : Below w.heap.size w W) a => marked_any W xA xn xc xl (hx.on hb) a)
  have HMY := Lib.hid (fun W (hb : Below w.heap.size w W) a => marked_any W yA yn yc yl (hy.on hb) a)
  have HKN := Lib.hid hkn
  clear hx hy hkn
  obtain ⟨ff, hff⟩ : ∃ x, (kpOf xl) = x := ⟨_, rfl⟩
  obtain ⟨gg, hgg⟩ : ∃ x, (ckLean P yl) = x := ⟨_, rfl⟩
  rw [hff, hgg]
  have HFF := Lib.hid hff
  have HGG := Lib.hid hgg
  clear hff hgg
  obtain ⟨fA, fn, fc, fs, dA, dn, dc, ds, en, cs⟩ := P
  unfold pgV
  dsimp only at HGF HE HKN hfn ⊢
  have HN := Lib.hid hfn
  obtain ⟨W0, hW0⟩ : ∃ W0, (w.alloc (.cells #[.slice fA fn fc, .slice dA dn dc, .int .i64 en] 34)).alloc (.cells #[.slice none 0 0, .slice none 0 0] 29) = W0 := ⟨_, rfl⟩
  have HB0 := Lib.hid (show Below w.heap.size w W0 from by rw [← hW0]; exact to_ (alloc_ _ _) (alloc_ _ _))
  have HK1 := Lib.hid (show Blk W0 w.heap.size 34 #[.slice fA fn fc, .slice dA dn dc, .int .i64 en] from by rw [← hW0]; exact (Blk.new _ _ _).alloc _)
  have HK2 := Lib.hid (show Blk W0 (w.heap.size + 1) 29 #[.slice none 0 0, .slice none 0 0] from by
    rw [← hW0]
    have := Blk.new (w.alloc (.cells #[.slice fA fn fc, .slice dA dn dc, .int .i64 en] 34)) 29 #[.slice none 0 0, .slice none 0 0]
    rwa [World.size_alloc] at this)
  have b0 : W0.cell? ⟨w.heap.size, 0, none⟩ = some (.slice fA fn fc) := HK1.out.cell 0
  have b1 : W0.cell? ⟨w.heap.size, 1, none⟩ = some (.slice dA dn dc) := HK1.out.cell 1
  have b2 : W0.cell? ⟨w.heap.size, 2, none⟩ = some (.int .i64 en) := HK1.out.cell 2
  clear hfr
  unfold pgV at HE
  go_enter Try.func19, Try.ntmps19
  go_wp2_with (go_at_call 31; refine (HE.out _).mono ?_; rintro e w3 ⟨c1, c2, rfl, n1, n2, hne, hl1, hl2, hb3⟩; have HB3 := Lib.hid hb3; have HS3 := Lib.hid (show w.heap.size + 1 < c1 ∧ w.heap.size + 1 < c2 from by have := HK2.out.lt; omega); have hn1 := n1.lt; have hn2 := n2.lt; have HFI := Lib.hid (show ∀ ff gg, Fil w (w3.alloc (.cells #[.slice (some ⟨c1, 0, none⟩) fn fn, .slice (some ⟨c2, 0, none⟩) fn fn] 29)) #[.slice fA fn fc, .slice dA dn dc, .int .i64 en] w3.heap.size c1 c2 fn 0 ff gg from fun ff gg => ⟨to_ (to_ HB0.out hb3) (alloc_ _ _), (HK1.out.below hb3 HK1.out.lt).alloc _, (HK2.out.below hb3 HK2.out.lt).alloc _, Blk.new _ _ _, by rw [arrB_zero]; exact n1.alloc _, by rw [arrI_zero]; exact n2.alloc _, by have := HS3.out; omega⟩); clear n1 n2 hne hl1 hl2 hb3 hn1 hn2; obtain ⟨PB, hPB⟩ : ∃ x : Nat, w3.heap.size = x := ⟨_, rfl⟩; have HPB := Lib.hid hPB; rw [hPB] at HFI; obtain ⟨W1, hW1⟩ : ∃ x, w3.alloc (.cells #[.slice (some ⟨c1, 0, none⟩) fn fn, .slice (some ⟨c2, 0, none⟩) fn fn] 29) = x := ⟨_, rfl⟩; rw [hW1] at HFI; have d0 : W1.cell? ⟨w.heap.size, 0, none⟩ = some (.slice fA fn fc) := (HFI.out (fun _ => false) (fun _ => 0)).prog.cell 0; clear b0 b1 b2 hW0)
  clear hW1 d0
  have HFI := Lib.hid (HFI.out ff gg)
  try rw [hPB]
  clear hPB
  go_loopw [15] (fun i9 wr => ∃ k : Nat, k ≤ fn ∧ i9 = .int .i64 (k : Int) ∧ Hid (Fil w wr #[.slice fA fn fc, .slice dA dn dc, .int .i64 en] PB c1 c2 fn k ff gg)) (fun i9 _ => fn - (intOf i9).toNat)
  case atStart => exact ⟨0, Nat.zero_le _, rfl, HFI⟩
  case round =>
    obtain ⟨k, hk, rfl, HF⟩ := hrel
    by_cases hlt : k < fn
    · have hkI : (k : Int) < (fn : Int) := by omega
      have hk0 : (0 : Int) ≤ (k : Int) := by omega
      have HLT := Lib.hid hlt
      obtain ⟨ad, rfl, hz9, f0, hfc⟩ := HGF.out wr HF.out.low k hlt
      have HFK := Lib.hid (congrFun HFF.out k)
      have HGK := Lib.hid (congrFun HGG.out k)
      unfold kpOf at HFK
      unfold ckLean at HGK
      dsimp only at HFK HGK
      obtain ⟨g, hg⟩ : ∃ g, gfAt fs k = g := ⟨_, rfl⟩
      rw [hg] at hfc f0 HGK
      have HFN := Lib.hid (show g.F.kinds.2.1 ≤ 1000 from by rw [← hg]; exact HKN.out k hlt)
      clear hg
      obtain ⟨file, item, nm, ⟨cl, ⟨kA, kn, kc⟩, pd, no, fr, tt, ⟨lA, ln, lc⟩, ⟨cA, cn, cc⟩, ⟨rA, rn, rc⟩⟩, ⟨qA, qn, qc⟩, refs⟩ := g
      have f1 := hfc 0 _ rfl
      have f2 := hfc 1 _ rfl
      have f3 := hfc 2 _ rfl
      have f4 := hfc 3 _ rfl
      have f5 := hfc 4 _ rfl
      have f6 := hfc 5 _ rfl
      have f7 := hfc 6 _ rfl
      have f8 := hfc 7 _ rfl
      have f9 := hfc 8 _ rfl
      have f10 := hfc 9 _ rfl
      have f11 := hfc 10 _ rfl
      have f12 := hfc 11 _ rfl
      unfold slV at f4 f9 f10 f11 f12
      dsimp only at HGK f0 f1 f2 f3 f4 f5 f6 f7 f8 f9 f10 f11 f12
      clear hfc
      obtain ⟨wz, hwz⟩ : ∃ wz, wz = wr := ⟨_, rfl⟩
      subst hwz
      obtain ⟨FBK, hFB⟩ : ∃ x : Nat, wz.heap.size = x := ⟨_, rfl⟩
      obtain ⟨wy, hwy⟩ : ∃ wy, wz.alloc (.cells #[.int .i64 (file : Int), .int .i64 (item : Int), .string nm, .int .i64 cl, .slice kA kn kc, .int .i64 pd, .bool no, .int .i64 fr, .int .i64 tt, .slice lA ln lc, .slice cA cn cc, .slice rA rn rc, .slice qA qn qc] 72) = wy := ⟨_, rfl⟩
      have HFB := Lib.hid (show Blk wy FBK 72 #[.int .i64 (file : Int), .int .i64 (item : Int), .string nm, .int .i64 cl, .slice kA kn kc, .int .i64 pd, .bool no, .int .i64 fr, .int .i64 tt, .slice lA ln lc, .slice cA cn cc, .slice rA rn rc, .slice qA qn qc] from by rw [← hwy, ← hFB]; exact Blk.new _ _ _)
      have HY := Lib.hid (HF.out.on (show Below wz.heap.size wz wy from by rw [← hwy]; exact alloc_ _ _))
      have HYZ := Lib.hid (show Below wz.heap.size wz wy from by rw [← hwy]; exact alloc_ _ _)
      have HNE := Lib.hid (show FBK ≠ c1 ∧ FBK ≠ c2 from by have := HF.out.r1.lt; have := HF.out.r2.lt; omega)
      have HFBZ := Lib.hid hFB
      have e0 : wy.cell? ⟨PB, 0, none⟩ = some (.slice (some ⟨c1, 0, none⟩) fn fn) := HY.out.box.cell 0
      have e1 : wy.cell? ⟨c1, k, none⟩ = some (.bool false) := (HY.out.r1.cell k).trans (arrB_at ff hlt)
      have e2 : wy.frozen? ⟨c1, k, none⟩ = false := HY.out.r1.frozen k
      have hkn : kn ≤ 1000 := HFN.out
      have HFR := Lib.hid (fun W => frame_any ⟨cl, (kA, kn, kc), pd, no, fr, tt, (lA, ln, lc), (cA, cn, cc), (rA, rn, rc)⟩ hkn W)
      unfold encFc slV at HFR
      dsimp only at HFR
      obtain ⟨z, hz⟩ : ∃ z, frV ⟨cl, (kA, kn, kc), pd, no, fr, tt, (lA, ln, lc), (cA, cn, cc), (rA, rn, rc)⟩ = z := ⟨_, rfl⟩
      rw [hz] at HFR HGK
      have HLE := Lib.hid (fun W => least_any z W)
      obtain ⟨v, hv⟩ : ∃ v, leastV z = v := ⟨_, rfl⟩
      rw [hv] at HLE HGK
      clear hz hv HFN
      have HX := Lib.hid (fun W hb => HMX.out W hb k)
      have HYM := Lib.hid (fun W hb => HMY.out W hb k)
      obtain ⟨b, hb⟩ : ∃ b, xl.getD k false = b := ⟨_, rfl⟩
      rw [hb] at HX HFK
      obtain ⟨d, hd⟩ : ∃ d, yl.getD k false = d := ⟨_, rfl⟩
      rw [hd] at HYM HGK
      clear hb hd
      obtain ⟨wA, hwA⟩ : ∃ x, wy.setCell ⟨c1, k, none⟩ (.bool b) = x := ⟨_, rfl⟩
      have HA1 := Lib.hid (show Blk wA c1 4 (arrB fn (k + 1) ff) from by rw [← hwA]; exact HY.out.set1 hlt HFK.out)
      have HAZ := Lib.hid (show ∀ b, b ≠ c1 → wA.heap[b]? = wy.heap[b]? from fun b hb => by rw [← hwA]; exact Below.heap_setCell _ ⟨c1, k, none⟩ _ b hb)
      have HAL := Lib.hid (show Below w.heap.size w wA from by rw [← hwA]; exact far_below HY.out.low (by have := HY.out.ne; omega))
      have HFA := Lib.hid (show Blk wA FBK 72 #[.int .i64 (file : Int), .int .i64 (item : Int), .string nm, .int .i64 cl, .slice kA kn kc, .int .i64 pd, .bool no, .int .i64 fr, .int .i64 tt, .slice lA ln lc, .slice cA cn cc, .slice rA rn rc, .slice qA qn qc] from (HAZ.out FBK HNE.out.1).trans HFB.out)
      have g0 : wA.cell? ⟨PB, 1, none⟩ = some (.slice (some ⟨c2, 0, none⟩) fn fn) := (World.cell?_of_block (HAZ.out PB (by have := HY.out.ne; omega))).trans (HY.out.box.cell 1)
      have HA2 := Lib.hid (show Blk wA c2 3 (arrI fn k gg) from (HAZ.out c2 (by have := HY.out.ne; omega)).trans HY.out.r2)
      have hmod : ∀ (q : Nat), q < fn → (q : Int) < (fn : Int) := fun q hq => by omega
      go_wp2_with fail
      refine wp_region_noPanic ?_
      refine wp_region_held_drew (S := fun W => W.cell? ⟨PB, 0, none⟩ = some (.slice (some ⟨c1, 0, none⟩) fn fn)) (by kernel_rfl) (e0) (fun hHeld => ?_)
      refine wpAnyH_take (i := 0) rfl (by kernel_rfl) (by kernel_rfl) (by kernel_rfl) (fun _ _ _ h => h) (Or.inl ⟨by rfl, by intro W hSW; (try dsimp only at hSW); go_simp; try (with_reducible rfl)⟩) hHeld ?_
      try simp only [Act.put, List.getElem_toArray, List.getElem_cons_zero, List.getElem_cons_succ, List.setIfInBounds_toArray, List.set_cons_zero, List.set_cons_succ]
      refine wpAnyH_take (i := 1) rfl (by kernel_rfl) (by kernel_rfl) (by kernel_rfl) (fun _ _ _ h => h) (Or.inl ⟨by rfl, by intro W hSW; (try dsimp only at hSW); go_simp; try (with_reducible rfl)⟩) hHeld ?_
      try simp only [Act.put, List.getElem_toArray, List.getElem_cons_zero, List.getElem_cons_succ, List.setIfInBounds_toArray, List.set_cons_zero, List.set_cons_succ]
      refine wpAnyH_take (i := 2) rfl (by kernel_rfl) (by kernel_rfl) (by kernel_rfl) (fun _ _ _ h => h) (Or.inl ⟨by rfl, by intro W hSW; (try dsimp only at hSW); go_simp; try (with_reducible rfl)⟩) hHeld ?_
      try simp only [Act.put, List.getElem_toArray, List.getElem_cons_zero, List.getElem_cons_succ, List.setIfInBounds_toArray, List.set_cons_zero, List.set_cons_succ]
      refine wpAnyH_take (i := 3) rfl (by kernel_rfl) (by kernel_rfl) (by kernel_rfl) (fun _ _ _ h => h) (Or.inl ⟨by rfl, by intro W hSW; (try dsimp only at hSW); go_simp; try (with_reducible rfl)⟩) hHeld ?_
      try simp only [Act.put, List.getElem_toArray, List.getElem_cons_zero, List.getElem_cons_succ, List.setIfInBounds_toArray, List.set_cons_zero, List.set_cons_succ]
      refine wpAnyH_take (i := 4) rfl (by kernel_rfl) (by kernel_rfl) (by kernel_rfl) (fun _ _ _ h => h) (Or.inl ⟨by rfl, by intro W hSW; (try dsimp only at hSW); go_simp; try (with_reducible rfl)⟩) hHeld ?_
      try simp only [Act.put, List.getElem_toArray, List.getElem_cons_zero, List.getElem_cons_succ, List.setIfInBounds_toArray, List.set_cons_zero, List.set_cons_succ]
      refine wpAnyH_ready (rs := [5]) (by kernel_rfl) (by simp) ?_
      refine AllReadyH.cons rfl (fun K hK => ?_) AllReadyH.nil
      go_simp
      refine (HX.out _ HY.out.low.drew).mono ?_; rintro e w9 ⟨rfl, rfl⟩
      try go_wp2_with fail
      refine hK.out _ _ (hHeld) ?_
      clear hK K hHeld
      intro hHeld
      try simp only [Act.put, List.getElem_toArray, List.getElem_cons_zero, List.getElem_cons_succ, List.setIfInBounds_toArray, List.set_cons_zero, List.set_cons_succ]
      refine wpAnyH_take (i := 6) rfl (by kernel_rfl) (by kernel_rfl) (by kernel_rfl) (fun _ _ _ h => h) (Or.inl ⟨by rfl, by intro W hSW; (try dsimp only at hSW); go_simp; try (with_reducible rfl)⟩) hHeld ?_
      try simp only [Act.put, List.getElem_toArray, List.getElem_cons_zero, List.getElem_cons_succ, List.setIfInBounds_toArray, List.set_cons_zero, List.set_cons_succ]
      refine wpAnyH_ready (rs := [7]) (by kernel_rfl) (by simp) ?_
      refine AllReadyH.cons rfl (fun K hK => ?_) AllReadyH.nil
      go_simp
      try go_wp2_with fail
      refine hK.out _ _ (by first | exact far_cell hHeld (by have := HY.out.ne; omega) | (rw [← hwA]; exact far_cell hHeld (by have := HY.out.ne; omega))) ?_
      clear hK K hHeld
      intro hHeld
      try simp only [Act.put, List.getElem_toArray, List.getElem_cons_zero, List.getElem_cons_succ, List.setIfInBounds_toArray, List.set_cons_zero, List.set_cons_succ]
      refine wpAnyH_done (by kernel_rfl) ?_ _
      refine NoPanic.normal ?_
      cases d with
      | true =>
        have HG0 := Lib.hid (show gg k = 0 from by rw [← HGK.out]; rfl)
        go_wp2_with (go_at_call 32; refine (HYM.out _ HAL.out.drew).mono ?_; rintro e w9 ⟨rfl, rfl⟩)
        go_roundw
        case rel => exact ⟨k + 1, by have := HLT.out; omega, by go_num, Lib.hid (HY.out.both HA1.out (by rw [← arrI_same gg HG0.out]; exact HA2.out) (fun b _ h1 _ => HAZ.out b h1) HAL.out).drew⟩
        case measure => have := HLT.out; simp [intOf]; omega
      | false =>
        have HG0 := Lib.hid (show v = gg k from by rw [← HGK.out]; rfl)
        go_wp2_with (go_at_call 32; refine (HYM.out _ HAL.out.drew).mono ?_; rintro e w9 ⟨rfl, rfl⟩)
        have x3 : wA.cell? ⟨FBK, 3, none⟩ = some (.int .i64 cl) := HFA.out.cell 3
        have x4 : wA.cell? ⟨FBK, 4, none⟩ = some (.slice kA kn kc) := HFA.out.cell 4
        have x5 : wA.cell? ⟨FBK, 5, none⟩ = some (.int .i64 pd) := HFA.out.cell 5
        have x6 : wA.cell? ⟨FBK, 6, none⟩ = some (.bool no) := HFA.out.cell 6
        have x7 : wA.cell? ⟨FBK, 7, none⟩ = some (.int .i64 fr) := HFA.out.cell 7
        have x8 : wA.cell? ⟨FBK, 8, none⟩ = some (.int .i64 tt) := HFA.out.cell 8
        have x9 : wA.cell? ⟨FBK, 9, none⟩ = some (.slice lA ln lc) := HFA.out.cell 9
        have x10 : wA.cell? ⟨FBK, 10, none⟩ = some (.slice cA cn cc) := HFA.out.cell 10
        have x11 : wA.cell? ⟨FBK, 11, none⟩ = some (.slice rA rn rc) := HFA.out.cell 11
        clear hHeld
        refine wp_region_noPanic ?_
        refine wp_region_held_drew (S := fun W => W.cell? ⟨PB, 1, none⟩ = some (.slice (some ⟨c2, 0, none⟩) fn fn) ∧ W.cell? ⟨FBK, 3, none⟩ = some (.int .i64 cl) ∧ W.cell? ⟨FBK, 4, none⟩ = some (.slice kA kn kc) ∧ W.cell? ⟨FBK, 5, none⟩ = some (.int .i64 pd) ∧ W.cell? ⟨FBK, 6, none⟩ = some (.bool no) ∧ W.cell? ⟨FBK, 7, none⟩ = some (.int .i64 fr) ∧ W.cell? ⟨FBK, 8, none⟩ = some (.int .i64 tt) ∧ W.cell? ⟨FBK, 9, none⟩ = some (.slice lA ln lc) ∧ W.cell? ⟨FBK, 10, none⟩ = some (.slice cA cn cc) ∧ W.cell? ⟨FBK, 11, none⟩ = some (.slice rA rn rc)) (by kernel_rfl) (⟨g0, x3, x4, x5, x6, x7, x8, x9, x10, x11⟩) (fun hHeld => ?_)
        refine wpAnyH_take (i := 0) rfl (by kernel_rfl) (by kernel_rfl) (by kernel_rfl) (fun _ _ _ h => h) (Or.inl ⟨by rfl, by intro W hSW; (try dsimp only at hSW); go_simp; try (with_reducible rfl)⟩) hHeld ?_
        try simp only [Act.put, List.getElem_toArray, List.getElem_cons_zero, List.getElem_cons_succ, List.setIfInBounds_toArray, List.set_cons_zero, List.set_cons_succ]
        refine wpAnyH_take (i := 1) rfl (by kernel_rfl) (by kernel_rfl) (by kernel_rfl) (fun _ _ _ h => h) (Or.inl ⟨by rfl, by intro W hSW; (try dsimp only at hSW); go_simp; try (with_reducible rfl)⟩) hHeld ?_
        try simp only [Act.put, List.getElem_toArray, List.getElem_cons_zero, List.getElem_cons_succ, List.setIfInBounds_toArray, List.set_cons_zero, List.set_cons_succ]
        refine wpAnyH_take (i := 2) rfl (by kernel_rfl) (by kernel_rfl) (by kernel_rfl) (fun _ _ _ h => h) (Or.inl ⟨by rfl, by intro W hSW; (try dsimp only at hSW); go_simp; try (with_reducible rfl)⟩) hHeld ?_
        try simp only [Act.put, List.getElem_toArray, List.getElem_cons_zero, List.getElem_cons_succ, List.setIfInBounds_toArray, List.set_cons_zero, List.set_cons_succ]
        refine wpAnyH_take (i := 3) rfl (by kernel_rfl) (by kernel_rfl) (by kernel_rfl) (fun _ _ _ h => h) (Or.inl ⟨by rfl, by intro W hSW; (try dsimp only at hSW); go_simp; try (with_reducible rfl)⟩) hHeld ?_
        try simp only [Act.put, List.getElem_toArray, List.getElem_cons_zero, List.getElem_cons_succ, List.setIfInBounds_toArray, List.set_cons_zero, List.set_cons_succ]
        refine wpAnyH_take (i := 4) rfl (by kernel_rfl) (by kernel_rfl) (by kernel_rfl) (fun _ _ _ h => h) (Or.inl ⟨by rfl, by intro W hSW; (try dsimp only at hSW); go_simp; try (with_reducible rfl)⟩) hHeld ?_
        try simp only [Act.put, List.getElem_toArray, List.getElem_cons_zero, List.getElem_cons_succ, List.setIfInBounds_toArray, List.set_cons_zero, List.set_cons_succ]
        refine wpAnyH_ready (rs := [5]) (by kernel_rfl) (by simp) ?_
        refine AllReadyH.cons rfl (fun K hK => ?_) AllReadyH.nil
        go_simp
        refine (HFR.out _).mono ?_; rintro e w9 ⟨rfl, hb9⟩; have HB9 := Lib.hid hb9; have HB8 := Lib.hid (und (und hb9)); clear hb9
        try go_wp2_with fail
        refine hK.out _ _ (⟨cell_on hHeld.1 HB9.out, cell_on hHeld.2.1 HB9.out, cell_on hHeld.2.2.1 HB9.out, cell_on hHeld.2.2.2.1 HB9.out, cell_on hHeld.2.2.2.2.1 HB9.out, cell_on hHeld.2.2.2.2.2.1 HB9.out, cell_on hHeld.2.2.2.2.2.2.1 HB9.out, cell_on hHeld.2.2.2.2.2.2.2.1 HB9.out, cell_on hHeld.2.2.2.2.2.2.2.2.1 HB9.out, cell_on hHeld.2.2.2.2.2.2.2.2.2 HB9.out⟩) ?_
        clear hK K hHeld
        intro hHeld
        try simp only [Act.put, List.getElem_toArray, List.getElem_cons_zero, List.getElem_cons_succ, List.setIfInBounds_toArray, List.set_cons_zero, List.set_cons_succ]
        refine wpAnyH_ready (rs := [6]) (by kernel_rfl) (by simp) ?_
        refine AllReadyH.cons rfl (fun K hK => ?_) AllReadyH.nil
        go_simp
        refine (HLE.out _).mono ?_; rintro e w8 ⟨rfl, rfl⟩
        try go_wp2_with fail
        refine hK.out _ _ (hHeld) ?_
        clear hK K hHeld
        intro hHeld
        try simp only [Act.put, List.getElem_toArray, List.getElem_cons_zero, List.getElem_cons_succ, List.setIfInBounds_toArray, List.set_cons_zero, List.set_cons_succ]
        refine wpAnyH_take (i := 7) rfl (by kernel_rfl) (by kernel_rfl) (by kernel_rfl) (fun _ _ _ h => h) (Or.inl ⟨by rfl, by intro W hSW; (try dsimp only at hSW); go_simp; try (with_reducible rfl)⟩) hHeld ?_
        try simp only [Act.put, List.getElem_toArray, List.getElem_cons_zero, List.getElem_cons_succ, List.setIfInBounds_toArray, List.set_cons_zero, List.set_cons_succ]
        have hC9 : Blk w8 c2 3 (arrI fn k gg) := Blk.below HA2.out HB8.out HA2.out.lt
        have HC9 := Lib.hid hC9
        have q1 : w8.cell? ⟨c2, k, none⟩ = some (.int .i64 0) := (hC9.cell k).trans (arrI_at gg HLT.out)
        have q2 : w8.frozen? ⟨c2, k, none⟩ = false := hC9.frozen k
        clear hC9
        obtain ⟨wB, hwB⟩ : ∃ x, w8.setCell ⟨c2, k, none⟩ (.int .i64 v) = x := ⟨_, rfl⟩
        have HWB := Lib.hid hwB
        refine wpAnyH_ready (rs := [8]) (by kernel_rfl) (by simp) ?_
        refine AllReadyH.cons rfl (fun K hK => ?_) AllReadyH.nil
        go_simp
        try go_wp2_with fail
        have hne2 : FBK ≠ c2 := HNE.out.2
        have hne3 : PB ≠ c2 := by have := HY.out.ne; omega
        refine hK.out _ _ (by first | exact ⟨far_cell hHeld.1 (by first | exact hne2 | exact hne3), far_cell hHeld.2.1 (by first | exact hne2 | exact hne3), far_cell hHeld.2.2.1 (by first | exact hne2 | exact hne3), far_cell hHeld.2.2.2.1 (by first | exact hne2 | exact hne3), far_cell hHeld.2.2.2.2.1 (by first | exact hne2 | exact hne3), far_cell hHeld.2.2.2.2.2.1 (by first | exact hne2 | exact hne3), far_cell hHeld.2.2.2.2.2.2.1 (by first | exact hne2 | exact hne3), far_cell hHeld.2.2.2.2.2.2.2.1 (by first | exact hne2 | exact hne3), far_cell hHeld.2.2.2.2.2.2.2.2.1 (by first | exact hne2 | exact hne3), far_cell hHeld.2.2.2.2.2.2.2.2.2 (by first | exact hne2 | exact hne3)⟩ | (rw [← HWB.out]; exact ⟨far_cell hHeld.1 (by first | exact hne2 | exact hne3), far_cell hHeld.2.1 (by first | exact hne2 | exact hne3), far_cell hHeld.2.2.1 (by first | exact hne2 | exact hne3), far_cell hHeld.2.2.2.1 (by first | exact hne2 | exact hne3), far_cell hHeld.2.2.2.2.1 (by first | exact hne2 | exact hne3), far_cell hHeld.2.2.2.2.2.1 (by first | exact hne2 | exact hne3), far_cell hHeld.2.2.2.2.2.2.1 (by first | exact hne2 | exact hne3), far_cell hHeld.2.2.2.2.2.2.2.1 (by first | exact hne2 | exact hne3), far_cell hHeld.2.2.2.2.2.2.2.2.1 (by first | exact hne2 | exact hne3), far_cell hHeld.2.2.2.2.2.2.2.2.2 (by first | exact hne2 | exact hne3)⟩)) ?_
        clear hK K hHeld
        intro hHeld
        try simp only [Act.put, List.getElem_toArray, List.getElem_cons_zero, List.getElem_cons_succ, List.setIfInBounds_toArray, List.set_cons_zero, List.set_cons_succ]
        refine wpAnyH_done (by kernel_rfl) ?_ _
        refine NoPanic.normal ?_
        have HBB2 := Lib.hid (show Blk wB c2 3 (arrI fn (k + 1) gg) from by
          rw [← HWB.out]
          have := HC9.out.stored k (.int .i64 v)
          rw [HG0.out, arrI_set gg HLT.out] at this
          rw [HG0.out]; exact this)
        have HBZ := Lib.hid (show ∀ b, b < wA.heap.size → b ≠ c2 → wB.heap[b]? = wA.heap[b]? from fun b hl hb => by rw [← HWB.out]; exact (Below.heap_setCell _ ⟨c2, k, none⟩ _ b hb).trans (HB8.out.block b hl))
        have HBLW := Lib.hid (show Below w.heap.size w wB from by rw [← HWB.out]; exact far_below (to_ HAL.out HB8.out) (by have := HY.out.ne; omega))
        have HSZ := Lib.hid (show wy.heap.size = wA.heap.size from by rw [← hwA]; simp [World.setCell])
        go_wp2_with fail
        go_roundw
        case rel => exact ⟨k + 1, by have := HLT.out; omega, by go_num, Lib.hid (by have hX := (HY.out.both ((HBZ.out c1 HA1.out.lt (by have := HY.out.ne; omega)).trans HA1.out) HBB2.out (fun b h0 h1 h2 => (HBZ.out b (by have := HSZ.out; omega) h2).trans (HAZ.out b h1)) HBLW.out); first | exact hX | exact hX.drew | exact hX.drew.drew)⟩
        case measure => have := HLT.out; simp [intOf]; omega
    · obtain rfl : k = fn := by omega
      have e0 : wr.cell? ⟨PB, 0, none⟩ = some (.slice (some ⟨c1, 0, none⟩) k k) := HF.out.box.cell 0
      have e1 : wr.cell? ⟨PB, 1, none⟩ = some (.slice (some ⟨c2, 0, none⟩) k k) := HF.out.box.cell 1
      have e2 : wr.cell? ⟨w.heap.size + 1, 0, none⟩ = some (.slice none 0 0) := HF.out.res.cell 0
      have e3 : wr.cell? ⟨w.heap.size + 1, 1, none⟩ = some (.slice none 0 0) := HF.out.res.cell 1
      have e4 := HF.out.res.frozen 0
      have e5 := HF.out.res.frozen 1
      have hr := (HF.out.res.stored 0 (.slice (some ⟨c1, 0, none⟩) k k)).stored 1 (.slice (some ⟨c2, 0, none⟩) k k)
      have HR0 := Lib.hid (show ((wr.setCell ⟨w.heap.size + 1, 0, none⟩ (.slice (some ⟨c1, 0, none⟩) k k)).setCell ⟨w.heap.size + 1, 1, none⟩ (.slice (some ⟨c2, 0, none⟩) k k)).cell? ⟨w.heap.size + 1, 0, none⟩ = some (.slice (some ⟨c1, 0, none⟩) k k) from (hr.cell 0).trans (by simp))
      have HR1 := Lib.hid (show ((wr.setCell ⟨w.heap.size + 1, 0, none⟩ (.slice (some ⟨c1, 0, none⟩) k k)).setCell ⟨w.heap.size + 1, 1, none⟩ (.slice (some ⟨c2, 0, none⟩) k k)).cell? ⟨w.heap.size + 1, 1, none⟩ = some (.slice (some ⟨c2, 0, none⟩) k k) from (hr.cell 1).trans (by simp))
      clear hr
      go_wp2_with fail
      refine bodyPost_ret (v := .agg #[.slice (some ⟨c1, 0, none⟩) k k, .slice (some ⟨c2, 0, none⟩) k k]) (by simp [results, Try.results19, go_sem, HR0.out, HR1.out]) rfl ?_
      exact plA_of HN.out (far_blk (far_blk HF.out.r1 (by have := HF.out.ne; omega)) (by have := HF.out.ne; omega)) (far_blk (far_blk HF.out.r2 (by have := HF.out.ne; omega)) (by have := HF.out.ne; omega)) (far_below (far_below HF.out.low (by omega)) (by omega))
end Go.Proofs.Ytnenmgefgdpkdaa.Bo
