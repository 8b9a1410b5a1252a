/-
  WALKS of layer 19's document: item, Check.
-/
import Derived.Test.YtbcabomblfehlabQc
namespace Go.Proofs.Ytbcabomblfehlab.Bo
open Go.RowKit
open Mem Rf
set_option linter.unusedSimpArgs false
set_option linter.unusedVariables false

theorem fst3 (E : Nat → Int) : fstE E 3 = if E 0 = 0 then (if E 1 = 0 then E 2 else E 1) else E 0 := by
  unfold fstE
  rw [show List.range 3 = [0, 1, 2] from rfl]
  simp only [List.find?]
  by_cases h0 : E 0 = 0
  · by_cases h1 : E 1 = 0
    · by_cases h2 : E 2 = 0
      · simp [h0, h1, h2]
      · simp [h0, h1, h2, bne_iff_ne.2 h2]
    · simp [h0, h1, bne_iff_ne.2 h1]
  · simp [h0, bne_iff_ne.2 h0]
theorem itm_none {o : Oj} {vf rf de : Nat → Int} {i : Nat} (h : dfr o.l o.fn i = none) : itmE o vf rf de i = 13 := by
  unfold itmE
  rw [fst3]
  have : e3 o vf rf de i 0 = 13 := if_pos h
  rw [this]; rfl
theorem itm_some {o : Oj} {vf rf de : Nat → Int} {i k : Nat} (h : dfr o.l o.fn i = some k) : itmE o vf rf de i = if (syAt o.l k).2.2.2.1 = knd o i then conE o vf rf de i else 14 := by
  unfold itmE
  rw [fst3]
  have h0 : e3 o vf rf de i 0 = 0 := if_neg (by rw [h]; simp)
  have h1 : e3 o vf rf de i 1 = clsE o i k := by show (match dfr o.l o.fn i with | some k => clsE o i k | none => 0) = _; rw [h]
  rw [if_pos h0, h1]
  unfold clsE
  by_cases h2 : (syAt o.l k).2.2.2.1 = knd o i
  · rw [if_pos h2, if_pos rfl, if_pos h2]; rfl
  · rw [if_neg h2, if_neg (by decide), if_neg h2]

section
variable {w : World} {o : Oj} {ne : ByteArray → Int} {ks kt : Int → Bool} {vf rf de : Nat → Int}
set_option maxRecDepth 100000 in
set_option maxHeartbeats 8000000 in
theorem ditem (h : Dx w o ne ks kt vf rf de) (i : Nat) (hi : i < o.fn + o.dn) :
    Calls Try.prog 50 #[ojV o, .int .i64 (i : Int)] w fun e w' => e = .returned (.int .i64 (itmE o vf rf de i)) ∧ Below w.heap.size w w' := by
  have hf := h.few
  have HDF := Lib.hid (fun W (hb : Below w.heap.size w W) => ddefiner W o (h.mem.on hb) hf i hi)
  cases hd : dfr o.l o.fn i with
  | none =>
    have HV := Lib.hid (itm_none (vf := vf) (rf := rf) (de := de) hd)
    rw [hd] at HDF
    unfold ixV at HDF
    dsimp only at HDF
    clear h hd
    obtain ⟨A, n, c, l, fA, fn, fc, fl, dA, dn, dc, dl⟩ := o
    unfold ojV at HDF ⊢
    dsimp only at HDF hf hi ⊢
    rw [HV.out]
    go_enter Try.func50, Try.ntmps50
    go_wp2_with (go_at_call 66; refine (HDF.out _ (alloc_ w _)).mono ?_; rintro e w2 ⟨rfl, b2⟩; obtain ⟨hb2, c0, c1, c2⟩ := bx3 b2; have hz2 : w.heap.size < w2.heap.size := World.block_lt_of_cell? w2 _ c0; have HB2 := Lib.hid hb2; clear b2)
    go_ret
    exact ⟨rfl, HB2.out⟩
  | some k =>
    have hk : k < o.n := by have := (dfr_some hd).1; rw [h.mem.sy.1] at this; exact this
    have HV := Lib.hid (itm_some (vf := vf) (rf := rf) (de := de) hd)
    rw [hd] at HDF
    unfold ixV at HDF
    dsimp only at HDF
    have HS := Lib.hid (fun W (hb : Below w.heap.size w W) => (h.mem.on hb).sy.at_ hk)
    have hk0 : ¬ (k : Int) < 0 := by omega
    have hk2 : (0 : Int) ≤ (k : Int) := by omega
    have hk1 : (k : Int) < (o.n : Int) := by omega
    clear hd
    by_cases hlt : i < o.fn
    · have HF := Lib.hid (fun W (hb : Below w.heap.size w W) => fc_at (h.mem.on hb).fs hlt)
      have HVF := Lib.hid (fun W (hb : Below w.heap.size w W) => h.fn W hb i hlt)
      have HRF := Lib.hid (fun W (hb : Below w.heap.size w W) => h.rng W hb i hlt)
      have hli : ¬ (o.fn : Int) ≤ (i : Int) := by omega
      have hiI : (i : Int) < (o.fn : Int) := by omega
      have hi0 : (0 : Int) ≤ (i : Int) := by omega
      have HV := Lib.hid (show itmE o vf rf de i = if (syAt o.l k).2.2.2.1 = (fcAt o.fl i).cl then (if vf i = 0 then rf i else vf i) else 14 by rw [HV.out]; unfold knd conE; rw [if_pos hlt, if_pos hlt])
      clear h hk
      obtain ⟨A, n, c, l, fA, fn, fc, fl, dA, dn, dc, dl⟩ := o
      obtain ⟨v9, hv9⟩ : ∃ z, itmE ⟨A, n, c, l, fA, fn, fc, fl, dA, dn, dc, dl⟩ vf rf de i = z := ⟨_, rfl⟩
      rw [hv9] at HV ⊢
      unfold ojV at HDF ⊢
      unfold encFc at HVF HRF
      dsimp only at HDF HS HF HVF HRF HV hk1 hli hiI hf ⊢
      obtain ⟨sa, rfl, -⟩ := HS.out w (Below.refl _ _)
      obtain ⟨ad, rfl, -⟩ := HF.out w (Below.refl _ _)
      obtain ⟨⟨cl, kds, pd, no, fr, tt, lns, cod, rl⟩, hr⟩ : ∃ r, fcAt fl i = r := ⟨_, rfl⟩
      rw [hr] at HF HVF HRF HV
      dsimp only at HF HVF HRF HV
      obtain ⟨v, hv⟩ : ∃ v, vf i = v := ⟨_, rfl⟩
      rw [hv] at HVF HV
      obtain ⟨r, hr2⟩ : ∃ r, rf i = r := ⟨_, rfl⟩
      rw [hr2] at HRF HV
      obtain ⟨⟨y0, y1, y2, y3, y4⟩, hy⟩ : ∃ y, syAt l k = y := ⟨_, rfl⟩
      rw [hy] at HS HV
      dsimp only at HS HV
      clear hr hv hr2 hy hv9 hlt hi
      by_cases hc : y3 = cl
      · have hc' : (cl != y3) = false := by simp [hc]
        have HV := Lib.hid (show v9 = if v = 0 then r else v by rw [HV.out, if_pos hc])
        clear hc
        go_enter Try.func50, Try.ntmps50
        go_wp2_with (go_at_call 66; refine (HDF.out _ (alloc_ w _)).mono ?_; rintro e w2 ⟨rfl, b2⟩; obtain ⟨hb2, c0, c1, c2⟩ := bx3 b2; have hz2 : w.heap.size < w2.heap.size := World.block_lt_of_cell? w2 _ c0; have HB2 := Lib.hid hb2; clear b2; obtain ⟨se, es, _, s0, s1, s2, s3, s4⟩ := HS.out w2 hb2; obtain rfl := Option.some.inj es; clear es; obtain ⟨ae, ee, _, f0, f1, f2, f3, f4, f5, f6, f7, f8⟩ := HF.out w2 hb2; obtain rfl := Option.some.inj ee; clear ee)
        refine wp_region_noPanic ?_
        refine wp_region_held_drew (S := fun W => W.cell? ⟨w.heap.size, 0, none⟩ = some (.slice (some sa) n c) ∧ W.cell? ⟨w.heap.size, 1, none⟩ = some (.slice (some ad) fn fc) ∧ W.cell? ⟨w.heap.size, 2, none⟩ = some (.slice dA dn dc) ∧ W.cell? (ad.add (i * 9)) = some (.int .i64 cl) ∧ W.cell? ⟨(ad.add (i * 9)).block, (ad.add (i * 9)).off + 1, none⟩ = some (slV kds) ∧ W.cell? ⟨(ad.add (i * 9)).block, (ad.add (i * 9)).off + 2, none⟩ = some (.int .i64 pd) ∧ W.cell? ⟨(ad.add (i * 9)).block, (ad.add (i * 9)).off + 3, none⟩ = some (.bool no) ∧ W.cell? ⟨(ad.add (i * 9)).block, (ad.add (i * 9)).off + 4, none⟩ = some (.int .i64 fr) ∧ W.cell? ⟨(ad.add (i * 9)).block, (ad.add (i * 9)).off + 5, none⟩ = some (.int .i64 tt) ∧ W.cell? ⟨(ad.add (i * 9)).block, (ad.add (i * 9)).off + 6, none⟩ = some (slV lns) ∧ W.cell? ⟨(ad.add (i * 9)).block, (ad.add (i * 9)).off + 7, none⟩ = some (slV cod) ∧ W.cell? ⟨(ad.add (i * 9)).block, (ad.add (i * 9)).off + 8, none⟩ = some (slV rl) ∧ Below w.heap.size w W) (by kernel_rfl) (⟨c0, c1, c2, f0, f1, f2, f3, f4, f5, f6, f7, f8, HB2.out.drew⟩) (fun hHeld => ?_)
        refine wpAnyH_take (i := 0) rfl (by kernel_rfl) (by kernel_rfl) (by kernel_rfl) (fun _ _ _ h => h) (Or.inl ⟨by rfl, by intro W hSW; (try dsimp only at hSW); go_simp; try (with_reducible rfl)⟩) hHeld ?_
        try simp only [Act.put, List.getElem_toArray, List.getElem_cons_zero, List.getElem_cons_succ, List.setIfInBounds_toArray, List.set_cons_zero, List.set_cons_succ]
        refine wpAnyH_take (i := 1) rfl (by kernel_rfl) (by kernel_rfl) (by kernel_rfl) (fun _ _ _ h => h) (Or.inl ⟨by rfl, by intro W hSW; (try dsimp only at hSW); go_simp; try (with_reducible rfl)⟩) hHeld ?_
        try simp only [Act.put, List.getElem_toArray, List.getElem_cons_zero, List.getElem_cons_succ, List.setIfInBounds_toArray, List.set_cons_zero, List.set_cons_succ]
        refine wpAnyH_take (i := 2) rfl (by kernel_rfl) (by kernel_rfl) (by kernel_rfl) (fun _ _ _ h => h) (Or.inl ⟨by rfl, by intro W hSW; (try dsimp only at hSW); go_simp; try (with_reducible rfl)⟩) hHeld ?_
        try simp only [Act.put, List.getElem_toArray, List.getElem_cons_zero, List.getElem_cons_succ, List.setIfInBounds_toArray, List.set_cons_zero, List.set_cons_succ]
        refine wpAnyH_take (i := 3) rfl (by kernel_rfl) (by kernel_rfl) (by kernel_rfl) (fun _ _ _ h => h) (Or.inl ⟨by rfl, by intro W hSW; (try dsimp only at hSW); go_simp; try (with_reducible rfl)⟩) hHeld ?_
        try simp only [Act.put, List.getElem_toArray, List.getElem_cons_zero, List.getElem_cons_succ, List.setIfInBounds_toArray, List.set_cons_zero, List.set_cons_succ]
        refine wpAnyH_take (i := 4) rfl (by kernel_rfl) (by kernel_rfl) (by kernel_rfl) (fun _ _ _ h => h) (Or.inl ⟨by rfl, by intro W hSW; (try dsimp only at hSW); go_simp; try (with_reducible rfl)⟩) hHeld ?_
        try simp only [Act.put, List.getElem_toArray, List.getElem_cons_zero, List.getElem_cons_succ, List.setIfInBounds_toArray, List.set_cons_zero, List.set_cons_succ]
        refine wpAnyH_take (i := 5) rfl (by kernel_rfl) (by kernel_rfl) (by kernel_rfl) (fun _ _ _ h => h) (Or.inl ⟨by rfl, by intro W hSW; (try dsimp only at hSW); go_simp; try (with_reducible rfl)⟩) hHeld ?_
        try simp only [Act.put, List.getElem_toArray, List.getElem_cons_zero, List.getElem_cons_succ, List.setIfInBounds_toArray, List.set_cons_zero, List.set_cons_succ]
        refine wpAnyH_take (i := 6) rfl (by kernel_rfl) (by kernel_rfl) (by kernel_rfl) (fun _ _ _ h => h) (Or.inl ⟨by rfl, by intro W hSW; (try dsimp only at hSW); go_simp; try (with_reducible rfl)⟩) hHeld ?_
        try simp only [Act.put, List.getElem_toArray, List.getElem_cons_zero, List.getElem_cons_succ, List.setIfInBounds_toArray, List.set_cons_zero, List.set_cons_succ]
        refine wpAnyH_ready (rs := [7]) (by kernel_rfl) (by simp) ?_
        refine AllReadyH.cons rfl (fun K hK => ?_) AllReadyH.nil
        go_simp
        refine (HVF.out _ hHeld.2.2.2.2.2.2.2.2.2.2.2.2).mono ?_
        rintro e w3 ⟨⟨x, rfl⟩, b3⟩
        try go_wp2_with fail
        refine hK.out _ _ (⟨cell_on hHeld.1 b3, cell_on hHeld.2.1 b3, cell_on hHeld.2.2.1 b3, cell_on hHeld.2.2.2.1 b3, cell_on hHeld.2.2.2.2.1 b3, cell_on hHeld.2.2.2.2.2.1 b3, cell_on hHeld.2.2.2.2.2.2.1 b3, cell_on hHeld.2.2.2.2.2.2.2.1 b3, cell_on hHeld.2.2.2.2.2.2.2.2.1 b3, cell_on hHeld.2.2.2.2.2.2.2.2.2.1 b3, cell_on hHeld.2.2.2.2.2.2.2.2.2.2.1 b3, cell_on hHeld.2.2.2.2.2.2.2.2.2.2.2.1 b3, to_ hHeld.2.2.2.2.2.2.2.2.2.2.2.2 b3⟩) ?_
        clear hK K hHeld
        intro hHeld
        try simp only [Act.put, List.getElem_toArray, List.getElem_cons_zero, List.getElem_cons_succ, List.setIfInBounds_toArray, List.set_cons_zero, List.set_cons_succ]
        refine wpAnyH_take (i := 8) rfl (by kernel_rfl) (by kernel_rfl) (by kernel_rfl) (fun _ _ _ h => h) (Or.inl ⟨by rfl, by intro W hSW; (try dsimp only at hSW); go_simp; try (with_reducible rfl)⟩) hHeld ?_
        try simp only [Act.put, List.getElem_toArray, List.getElem_cons_zero, List.getElem_cons_succ, List.setIfInBounds_toArray, List.set_cons_zero, List.set_cons_succ]
        refine wpAnyH_take (i := 9) rfl (by kernel_rfl) (by kernel_rfl) (by kernel_rfl) (fun _ _ _ h => h) (Or.inl ⟨by rfl, by intro W hSW; (try dsimp only at hSW); go_simp; try (with_reducible rfl)⟩) hHeld ?_
        try simp only [Act.put, List.getElem_toArray, List.getElem_cons_zero, List.getElem_cons_succ, List.setIfInBounds_toArray, List.set_cons_zero, List.set_cons_succ]
        refine wpAnyH_take (i := 10) rfl (by kernel_rfl) (by kernel_rfl) (by kernel_rfl) (fun _ _ _ h => h) (Or.inl ⟨by rfl, by intro W hSW; (try dsimp only at hSW); go_simp; try (with_reducible rfl)⟩) hHeld ?_
        try simp only [Act.put, List.getElem_toArray, List.getElem_cons_zero, List.getElem_cons_succ, List.setIfInBounds_toArray, List.set_cons_zero, List.set_cons_succ]
        refine wpAnyH_take (i := 11) rfl (by kernel_rfl) (by kernel_rfl) (by kernel_rfl) (fun _ _ _ h => h) (Or.inl ⟨by rfl, by intro W hSW; (try dsimp only at hSW); go_simp; try (with_reducible rfl)⟩) hHeld ?_
        try simp only [Act.put, List.getElem_toArray, List.getElem_cons_zero, List.getElem_cons_succ, List.setIfInBounds_toArray, List.set_cons_zero, List.set_cons_succ]
        refine wpAnyH_take (i := 12) rfl (by kernel_rfl) (by kernel_rfl) (by kernel_rfl) (fun _ _ _ h => h) (Or.inl ⟨by rfl, by intro W hSW; (try dsimp only at hSW); go_simp; try (with_reducible rfl)⟩) hHeld ?_
        try simp only [Act.put, List.getElem_toArray, List.getElem_cons_zero, List.getElem_cons_succ, List.setIfInBounds_toArray, List.set_cons_zero, List.set_cons_succ]
        refine wpAnyH_done (by kernel_rfl) ?_ _
        refine NoPanic.normal ?_
        by_cases h0 : v = 0
        · have h0' : (v != 0) = false := by simp [h0]
          have HR := Lib.hid (show v9 = r by rw [HV.out, if_pos h0])
          clear h0
          obtain ⟨c0, c1, c2, f0, f1, f2, f3, f4, f5, f6, f7, f8, hb3⟩ := hHeld
          have HB3 := Lib.hid hb3
          clear hb3
          go_wp2_with (go_at_call 69; refine (HRF.out _ HB3.out).mono ?_; rintro e w4 ⟨rfl, b4⟩; have HB4 := Lib.hid b4; clear b4)
          go_ret
          exact ⟨by rw [HR.out]; rfl, to_ HB3.out HB4.out⟩
        · have h0' : (v != 0) = true := by simp [h0]
          have HR := Lib.hid (show v9 = v by rw [HV.out, if_neg h0])
          clear h0
          go_wp2_with fail
          go_ret
          exact ⟨by rw [HR.out]; rfl, hHeld.2.2.2.2.2.2.2.2.2.2.2.2⟩
      · have hc' : (cl != y3) = true := by simp [Ne.symm hc]
        have HR := Lib.hid (show v9 = 14 by rw [HV.out, if_neg hc])
        clear hc
        go_enter Try.func50, Try.ntmps50
        go_wp2_with (go_at_call 66; refine (HDF.out _ (alloc_ w _)).mono ?_; rintro e w2 ⟨rfl, b2⟩; obtain ⟨hb2, c0, c1, c2⟩ := bx3 b2; have hz2 : w.heap.size < w2.heap.size := World.block_lt_of_cell? w2 _ c0; have HB2 := Lib.hid hb2; clear b2; obtain ⟨se, es, _, s0, s1, s2, s3, s4⟩ := HS.out w2 hb2; obtain rfl := Option.some.inj es; clear es; obtain ⟨ae, ee, _, f0, f1, f2, f3, f4, f5, f6, f7, f8⟩ := HF.out w2 hb2; obtain rfl := Option.some.inj ee; clear ee)
        go_ret
        exact ⟨by rw [HR.out]; rfl, HB2.out⟩
    · obtain ⟨j, rfl⟩ : ∃ j, i = o.fn + j := ⟨i - o.fn, by omega⟩
      have hj : j < o.dn := by omega
      have HF := Lib.hid (fun W (hb : Below w.heap.size w W) => dc_at (h.mem.on hb).ds hj)
      have HVF := Lib.hid (fun W (hb : Below w.heap.size w W) => h.dat W hb j hj)
      have hli : (o.fn : Int) ≤ ((o.fn + j : Nat) : Int) := by omega
      have hiI : (j : Int) < (o.dn : Int) := by omega
      have hi0 : (0 : Int) ≤ (j : Int) := by omega
      have hsub : IntKind.i64.wrap (((o.fn + j : Nat) : Int) - (o.fn : Int)) = (j : Int) := by
        have e : ((o.fn + j : Nat) : Int) - (o.fn : Int) = (j : Int) := by omega
        rw [e]; exact IntWalk.i64_in _ ⟨by omega, by omega⟩
      have HV := Lib.hid (show itmE o vf rf de (o.fn + j) = if (syAt o.l k).2.2.2.1 = (dcAt o.dl j).kd then de j else 14 by rw [HV.out]; unfold knd conE; rw [if_neg hlt, if_neg hlt, Nat.add_sub_cancel_left])
      clear h hk
      obtain ⟨A, n, c, l, fA, fn, fc, fl, dA, dn, dc, dl⟩ := o
      obtain ⟨v9, hv9⟩ : ∃ z, itmE ⟨A, n, c, l, fA, fn, fc, fl, dA, dn, dc, dl⟩ vf rf de (fn + j) = z := ⟨_, rfl⟩
      dsimp only at HV ⊢
      rw [hv9] at HV ⊢
      unfold ojV at HDF ⊢
      unfold encDc at HVF
      dsimp only at HDF HS HF HVF HV hk1 hli hiI hf hsub ⊢
      obtain ⟨sa, rfl, -⟩ := HS.out w (Below.refl _ _)
      obtain ⟨ad, rfl, -⟩ := HF.out w (Below.refl _ _)
      obtain ⟨⟨kd, ⟨wA, wn, wc⟩, ⟨rA, rn, rc⟩⟩, hr⟩ : ∃ r, dcAt dl j = r := ⟨_, rfl⟩
      rw [hr] at HF HVF HV
      unfold slV at HF HVF
      dsimp only at HF HVF HV
      obtain ⟨v, hv⟩ : ∃ v, de j = v := ⟨_, rfl⟩
      rw [hv] at HVF HV
      obtain ⟨⟨y0, y1, y2, y3, y4⟩, hy⟩ : ∃ y, syAt l k = y := ⟨_, rfl⟩
      rw [hy] at HS HV
      dsimp only at HS HV
      obtain ⟨x, hx⟩ : ∃ x : Int, ((fn + j : Nat) : Int) = x := ⟨_, rfl⟩
      rw [hx] at HDF hli hsub ⊢
      clear hr hv hy hv9 hlt hi hx
      by_cases hc : y3 = kd
      · have hc' : (kd != y3) = false := by simp [hc]
        have HR := Lib.hid (show v9 = v by rw [HV.out, if_pos hc])
        clear hc
        go_enter Try.func50, Try.ntmps50
        go_wp2_with (go_at_call 66; refine (HDF.out _ (alloc_ w _)).mono ?_; rintro e w2 ⟨rfl, b2⟩; obtain ⟨hb2, c0, c1, c2⟩ := bx3 b2; have hz2 : w.heap.size < w2.heap.size := World.block_lt_of_cell? w2 _ c0; have HB2 := Lib.hid hb2; clear b2; obtain ⟨se, es, _, s0, s1, s2, s3, s4⟩ := HS.out w2 hb2; obtain rfl := Option.some.inj es; clear es; obtain ⟨ae, ee, _, d0, d1, d2⟩ := HF.out w2 hb2; obtain rfl := Option.some.inj ee; clear ee; have hz3 := World.block_lt_of_cell? w2 _ d0)
        go_wp2_with (go_at_call 67; refine (HVF.out _ (to_ HB2.out (alloc_ _ _))).mono ?_; rintro e w4 ⟨rfl, b4⟩; have HB4 := Lib.hid (to_ (to_ HB2.out (alloc_ _ _)) b4); clear b4)
        go_ret
        exact ⟨by rw [HR.out]; rfl, HB4.out⟩
      · have hc' : (kd != y3) = true := by simp [Ne.symm hc]
        have HR := Lib.hid (show v9 = 14 by rw [HV.out, if_neg hc])
        clear hc
        go_enter Try.func50, Try.ntmps50
        go_wp2_with (go_at_call 66; refine (HDF.out _ (alloc_ w _)).mono ?_; rintro e w2 ⟨rfl, b2⟩; obtain ⟨hb2, c0, c1, c2⟩ := bx3 b2; have hz2 : w.heap.size < w2.heap.size := World.block_lt_of_cell? w2 _ c0; have HB2 := Lib.hid hb2; clear b2; obtain ⟨se, es, _, s0, s1, s2, s3, s4⟩ := HS.out w2 hb2; obtain rfl := Option.some.inj es; clear es; obtain ⟨ae, ee, _, d0, d1, d2⟩ := HF.out w2 hb2; obtain rfl := Option.some.inj ee; clear ee; have hz3 := World.block_lt_of_cell? w2 _ d0)
        go_ret
        exact ⟨by rw [HR.out]; rfl, to_ HB2.out (alloc_ _ _)⟩

set_option maxRecDepth 100000 in
set_option maxHeartbeats 8000000 in
theorem dcheck (h : Dx w o ne ks kt vf rf de) :
    Calls Try.prog 33 #[ojV o] w fun e w' => e = .returned (.tuple #[.int .i64 (chkO (tooMany o) o.n (o.fn + o.dn) (symE o ne ks kt) (itmE o vf rf de)).1, .int .i64 (chkO (tooMany o) o.n (o.fn + o.dn) (symE o ne ks kt) (itmE o vf rf de)).2]) ∧ Below w.heap.size w w' := by
  have hf := h.few
  have HSY := Lib.hid (fun W (hb : Below w.heap.size w W) i hi => dsymbol (h.on hb) i hi)
  have HIT := Lib.hid (fun W (hb : Below w.heap.size w W) i hi => ditem (h.on hb) i hi)
  have HIM := Lib.hid (fun W => ditems o W hf.2)
  clear h
  obtain ⟨sE, hs⟩ : ∃ z, symE o ne ks kt = z := ⟨_, rfl⟩
  rw [hs] at HSY ⊢
  obtain ⟨iE, hs'⟩ : ∃ z, itmE o vf rf de = z := ⟨_, rfl⟩
  rw [hs'] at HIT ⊢
  clear hs hs'
  unfold tooMany
  obtain ⟨A, n, c, l, fA, fn, fc, fl, dA, dn, dc, dl⟩ := o
  unfold ojV at HSY HIT HIM ⊢
  dsimp only at HSY HIT HIM hf ⊢
  obtain ⟨it, hit⟩ : ∃ z, fn + dn = z := ⟨_, rfl⟩
  rw [hit] at HIM HIT ⊢
  have hitm : it ≤ 2000 := by omega
  clear hit
  by_cases m1 : 32 < n
  · have m1' : (32 : Int) < (n : Int) := by omega
    rw [decide_eq_true m1, Bool.true_or, Bool.true_or]
    clear m1
    go_enter Try.func33, Try.ntmps33
    go_wp2_with fail
    refine bodyPost_ret (v := .tuple #[.int .i64 19, .int .i64 (-1)]) (by simp [results, Try.results33, go_sem]) rfl ⟨rfl, alloc_ _ _⟩
  · have m1' : ¬ (32 : Int) < (n : Int) := by omega
    rw [decide_eq_false m1, Bool.false_or]
    clear m1
    by_cases m2 : 12 < fn
    · have m2' : (12 : Int) < (fn : Int) := by omega
      rw [decide_eq_true m2, Bool.true_or]
      clear m2
      go_enter Try.func33, Try.ntmps33
      go_wp2_with fail
      refine bodyPost_ret (v := .tuple #[.int .i64 19, .int .i64 (-1)]) (by simp [results, Try.results33, go_sem]) rfl ⟨rfl, alloc_ _ _⟩
    · have m2' : ¬ (12 : Int) < (fn : Int) := by omega
      rw [decide_eq_false m2, Bool.false_or]
      clear m2
      by_cases m3 : 8 < dn
      · have m3' : (8 : Int) < (dn : Int) := by omega
        rw [decide_eq_true m3]
        clear m3
        go_enter Try.func33, Try.ntmps33
        go_wp2_with fail
        refine bodyPost_ret (v := .tuple #[.int .i64 19, .int .i64 (-1)]) (by simp [results, Try.results33, go_sem]) rfl ⟨rfl, alloc_ _ _⟩
      · have m3' : ¬ (8 : Int) < (dn : Int) := by omega
        rw [decide_eq_false m3]
        clear m3
        have HCS := Lib.hid (fun i hi h1 h2 => chk_sym (n := n) (it := it) (sE := sE) (iE := iE) (i := i) hi h1 h2)
        have HCI := Lib.hid (fun h0 i hi h1 h2 => chk_itm (n := n) (it := it) (sE := sE) (iE := iE) (i := i) h0 hi h1 h2)
        have HCO := Lib.hid (fun h0 h1 => chk_ok (n := n) (it := it) (sE := sE) (iE := iE) h0 h1)
        generalize chkO false n it sE iE = rr at *
        obtain ⟨W0, hW0⟩ : ∃ W0, w.alloc (.cells #[.slice A n c, .slice fA fn fc, .slice dA dn dc] 82) = W0 := ⟨_, rfl⟩
        have HX := Lib.hid (fun W (hb : Below W0.heap.size W0 W) => bx3 (w := w) (w2 := W) (by rw [hW0]; exact hb))
        obtain ⟨-, c0, c1, c2⟩ := HX.out W0 (Below.refl _ _)
        go_enter Try.func33, Try.ntmps33
        go_wp2_with fail
        clear hW0 c0 c1 c2
        go_loopw [4] (fun i9 wr => ∃ k : Nat, k ≤ n ∧ i9 = .int .i64 (k : Int) ∧ Hid (∀ m, m < k → (sE m != 0) = false) ∧ Hid (Below W0.heap.size W0 wr)) (fun i9 _ => n - (intOf i9).toNat)
        case atStart => exact ⟨0, Nat.zero_le _, rfl, Lib.hid (fun m hm => by omega), Lib.hid (Below.refl _ _)⟩
        case round =>
          obtain ⟨k, hk, rfl, HNO, HBE⟩ := hrel
          obtain ⟨hb9, c0, c1, c2⟩ := HX.out wr HBE.out
          have HB9 := Lib.hid hb9
          clear hb9
          by_cases hlt : k < n
          · have hkI : (k : Int) < (n : Int) := by omega
            have HC := Lib.hid (HSY.out wr HB9.out k hlt)
            have HV := Lib.hid (fun e => HCS.out k hlt HNO.out e)
            have HM := Lib.hid (fun e => upto_more (p := fun m => (sE m != 0) = false) HNO.out e)
            obtain ⟨q, hq⟩ : ∃ q, sE k = q := ⟨_, rfl⟩
            rw [hq] at HC HV HM
            clear hq
            by_cases q0 : q = 0
            · have q0' : (q != 0) = false := by simp [q0]
              have HR := Lib.hid (HM.out q0')
              clear q0
              go_wp2_with (go_at_call 48; refine HC.out.mono ?_; rintro e w3 ⟨rfl, b3⟩; have HB3 := Lib.hid (to_ HBE.out b3); clear b3)
              go_roundw
              case rel => exact ⟨k + 1, by omega, by go_num, HR, HB3⟩
              case measure => simp [intOf]; omega
            · have q0' : (q != 0) = true := by simp [q0]
              have HR := Lib.hid (HV.out q0')
              clear q0
              go_wp2_with (go_at_call 48; refine HC.out.mono ?_; rintro e w3 ⟨rfl, b3⟩; have HB3 := Lib.hid (to_ HB9.out b3); clear b3)
              refine bodyPost_ret (v := .tuple #[.int .i64 q, .int .i64 (k : Int)]) (by simp [results, Try.results33, go_sem]) rfl ⟨by rw [HR.out], HB3.out⟩
          · obtain rfl : k = n := by omega
            go_wp2_with fail
            clear c0 c1 c2
            obtain ⟨W5, hW5⟩ : ∃ W5, W5 = wr := ⟨_, rfl⟩
            subst hW5
            have HX5 := Lib.hid (fun W (hb : Below W5.heap.size W5 W) => HX.out W (to_ HBE.out hb))
            go_loopw [6] (fun i9 wr => ∃ j : Nat, j ≤ it ∧ i9 = .int .i64 (j : Int) ∧ Hid (∀ m, m < j → (iE m != 0) = false) ∧ Hid (Below W5.heap.size W5 wr)) (fun i9 _ => it - (intOf i9).toNat)
            case atStart => exact ⟨0, Nat.zero_le _, rfl, Lib.hid (fun m hm => by omega), Lib.hid (Below.refl _ _)⟩
            case round =>
              obtain ⟨j, hj, rfl, HNI, HBI⟩ := hrel
              obtain ⟨hb9, c0, c1, c2⟩ := HX5.out wr HBI.out
              have HB6 := Lib.hid hb9
              clear hb9
              by_cases hjl : j < it
              · have hjI : (j : Int) < (it : Int) := by omega
                have HC := Lib.hid (fun W (hb : Below w.heap.size w W) => HIT.out W hb j hjl)
                have HV := Lib.hid (fun e => HCI.out HNO.out j hjl HNI.out e)
                have HM := Lib.hid (fun e => upto_more (p := fun m => (iE m != 0) = false) HNI.out e)
                obtain ⟨q, hq⟩ : ∃ q, iE j = q := ⟨_, rfl⟩
                rw [hq] at HC HV HM
                clear hq
                by_cases q0 : q = 0
                · have q0' : (q != 0) = false := by simp [q0]
                  have HR := Lib.hid (HM.out q0')
                  clear q0
                  go_wp2_with (go_at_call 49; refine (HIM.out _).mono ?_; rintro e w3 ⟨rfl, b3⟩; replace c0 := cell_on c0 b3; replace c1 := cell_on c1 b3; replace c2 := cell_on c2 b3; have HB3 := Lib.hid (to_ HBI.out b3); have HB7 := Lib.hid (to_ HB6.out b3); clear b3; go_wp2_with (go_at_call 50; refine (HC.out _ HB7.out).mono ?_; rintro e w4 ⟨rfl, b4⟩; have HB4 := Lib.hid (to_ HB3.out b4); clear b4))
                  go_roundw
                  case rel => exact ⟨j + 1, by omega, by go_num, HR, HB4⟩
                  case measure => simp [intOf]; omega
                · have q0' : (q != 0) = true := by simp [q0]
                  have HR := Lib.hid (HV.out q0')
                  clear q0
                  go_wp2_with (go_at_call 49; refine (HIM.out _).mono ?_; rintro e w3 ⟨rfl, b3⟩; replace c0 := cell_on c0 b3; replace c1 := cell_on c1 b3; replace c2 := cell_on c2 b3; have HB7 := Lib.hid (to_ HB6.out b3); clear b3; go_wp2_with (go_at_call 50; refine (HC.out _ HB7.out).mono ?_; rintro e w4 ⟨rfl, b4⟩; have HB4 := Lib.hid (to_ HB7.out b4); clear b4))
                  refine bodyPost_ret (v := .tuple #[.int .i64 q, .int .i64 (j : Int)]) (by simp [results, Try.results33, go_sem]) rfl ⟨by rw [HR.out], HB4.out⟩
              · obtain rfl : j = it := by omega
                have HR := Lib.hid (HCO.out HNO.out HNI.out)
                go_wp2_with (go_at_call 49; refine (HIM.out _).mono ?_; rintro e w3 ⟨rfl, b3⟩; have HB7 := Lib.hid (to_ HB6.out b3); clear b3)
                refine bodyPost_ret (v := .tuple #[.int .i64 0, .int .i64 (-1)]) (by simp [results, Try.results33, go_sem]) rfl ⟨by rw [HR.out], HB7.out⟩
end
end Go.Proofs.Ytbcabomblfehlab.Bo
