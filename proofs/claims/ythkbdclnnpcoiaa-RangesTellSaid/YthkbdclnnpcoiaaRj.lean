/-
  WALKS of layer 18: the document's Least and Check; Few.
-/
import Derived.Test.YthkbdclnnpcoiaaRe
namespace Go.Proofs.Ythkbdclnnpcoiaa.By
open Go.RowKit
open Mem Gm Rf
set_option linter.unusedSimpArgs false

theorem bw_cells {w : World} {A : Option Addr} {n c : Nat} {o : Nat → Bool} (h : BW w (.slice A n c) n o) (j : Nat) (hj : j < n) : ∃ ad, A = some ad ∧ w.cell? (ad.add j) = some (.bool (o j)) := by
  have hl : ((List.range n).map fun i => Value.bool (o i)).length = n := by simp
  have hv : ((List.range n).map fun i => Value.bool (o i))[j]? = some (.bool (o j)) := by
    rw [List.getElem?_map, List.getElem?_range hj]; rfl
  rcases SlV.inv h with ⟨_, h1, _⟩ | ⟨ad, rfl, _, _, _, hr⟩
  · rw [h1] at hl; simp at hl; omega
  · exact ⟨ad, rfl, (hr j _ hv).2⟩

set_option maxRecDepth 100000 in
set_option maxHeartbeats 4000000 in
theorem rleast_any (w : World) (A : Option Addr) (n c : Nat) (O T : Nat → Int) (o : Nat → Bool) (h : CW w A n c O T) (hn : n ≤ 1000) (ho : pdO n O T = o) :
    Calls Try.prog 8 #[.slice A n c] w (LsAns (pnT o n) w) := by
  obtain ⟨L, hL⟩ : ∃ L, (mkT O n).length = L := ⟨_, rfl⟩
  have HM := Lib.hid (rmarks_any w A n c L O T h hn hL)
  have HAF := Lib.hid (fun X (hb : Below w.heap.size w X) (A2 : Option Addr) (c2 : Nat) (hm : IW X (.slice A2 L c2) (mkT O n)) => rafter_w (h.on hb) hL hm ho hn (show L ≤ 1000 by rw [← hL]; have := mkT_length O n; omega))
  clear h hL ho
  go_enter Try.func8, Try.ntmps8
  go_wp2_with (first
    | (go_at_call 11; refine HM.out.mono ?_; rintro e w1 ⟨A1, c1, rfl, h1, b1⟩; have H1 := Lib.hid h1; have HB1 := Lib.hid b1; clear h1 b1)
    | (go_at_call 17; refine (HAF.out w1 HB1.out A1 c1 H1.out).mono ?_; rintro e w2 ⟨A2, rfl, h2, b2⟩; have HR := Lib.hid (fun j hj => bw_cells h2 j hj); have HB2 := Lib.hid (to_ HB1.out b2); clear h2 b2))
  go_loop [5, 6, 7] (fun f t i => ∃ k : Nat, k ≤ n ∧ i = .int .i64 (k : Int) ∧ f = .int .i64 (lsP (pnT o k)).1 ∧ t = .int .i64 (lsP (pnT o k)).2) (fun _ _ i => n - (intOf i).toNat)
  case atStart => exact ⟨0, Nat.zero_le _, rfl, rfl, rfl⟩
  case round =>
    obtain ⟨k, hk, rfl, rfl, rfl⟩ := hrel
    by_cases hlt : k < n
    · have hkI : (k : Int) < (n : Int) := by omega
      obtain ⟨ad, rfl, hc⟩ := HR.out k hlt
      obtain ⟨b, hb⟩ : ∃ b, o k = b := ⟨_, rfl⟩
      rw [hb] at hc
      cases b with
      | true =>
        have HS := Lib.hid (lsP_snoc (pnT o k) (k : Int))
        rw [← pnT_yes hb] at HS
        clear hb
        generalize lsP (pnT o k) = ab at HS
        obtain ⟨x, y⟩ := ab
        by_cases hy : y = 0
        · subst hy
          go_wp2_with fail
          go_round
          case rel => exact ⟨k + 1, by omega, by go_num, by rw [HS.out]; rfl, by rw [HS.out]⟩
          case measure => simp [intOf]; omega
        · have hyb : (y == 0) = false := by simpa using hy
          have HNY := Lib.hid hy
          clear hy
          go_wp2_with fail
          go_round
          case rel => exact ⟨k + 1, by omega, by go_num, by rw [HS.out, if_neg HNY.out], by rw [HS.out]⟩
          case measure => simp [intOf]; omega
      | false =>
        have HS := Lib.hid (show lsP (pnT o (k + 1)) = lsP (pnT o k) by rw [pnT_no hb])
        clear hb
        generalize lsP (pnT o k) = ab at HS
        go_wp2_with fail
        go_round
        case rel => exact ⟨k + 1, by omega, by go_num, by rw [HS.out], by rw [HS.out]⟩
        case measure => simp [intOf]; omega
    · obtain rfl : k = n := by omega
      go_wp2_with fail
      refine bodyPost_ret (results_tmp2 rfl _ _ _) rfl ?_
      exact ⟨rfl, HB2.out⟩

set_option maxRecDepth 100000 in
set_option maxHeartbeats 4000000 in
theorem rcheck_any (w : World) (x0 x1 x2 x3 x6 x8 : Value) (f t : Int) (A : Option Addr) (n c : Nat) (O T : Nat → Int) (o : Nat → Bool) (h : CW w A n c O T) (hn : n ≤ 1000) (ho : pdO n O T = o) :
    Calls Try.prog 13 #[.agg #[x0, x1, x2, x3, .int .i64 f, .int .i64 t, x6, .slice A n c, x8]] w (CkAns (ckV f t (pnT o n)) w) := by
  obtain ⟨L, hL⟩ : ∃ L, (mkT O n).length = L := ⟨_, rfl⟩
  have HM := Lib.hid (fun X (hb : Below w.heap.size w X) => rmarks_any X A n c L O T (h.on hb) hn hL)
  have HAF := Lib.hid (fun X (hb : Below w.heap.size w X) (A2 : Option Addr) (c2 : Nat) (hm : IW X (.slice A2 L c2) (mkT O n)) => rafter_w (h.on hb) hL hm ho hn (show L ≤ 1000 by rw [← hL]; have := mkT_length O n; omega))
  have HI := Lib.hid (fun W p => rin_any W x0 x1 x2 x3 x6 (.slice A n c) x8 f t p)
  obtain ⟨W1, hW1⟩ : ∃ W1, w.alloc (.cells #[x0, x1, x2, x3, .int .i64 f, .int .i64 t, x6, .slice A n c, x8] 27) = W1 := ⟨_, rfl⟩
  have hsz1 : w.heap.size < W1.heap.size := by rw [← hW1]; simp
  have HB0 := Lib.hid (show Below w.heap.size w W1 by rw [← hW1]; exact alloc_ _ _)
  have HX := Lib.hid (show ∀ W, Below W1.heap.size W1 W → Blk W w.heap.size 27 #[x0, x1, x2, x3, .int .i64 f, .int .i64 t, x6, .slice A n c, x8] from fun W hb => (hb.block _ hsz1).trans (by rw [← hW1]; exact Blk.new w _ _))
  have hHeld : W1.drew.cell? ⟨w.heap.size, 7, none⟩ = some (.slice A n c) := (HX.out W1 (Below.refl _ _)).cell 7
  clear h hL ho
  go_enter Try.func13, Try.ntmps13
  go_wp2_with fail
  clear hW1
  have hD0 : Below W1.heap.size W1 W1.drew := drew_below W1
  refine wp_region_noPanic ?_
  refine wp_region_held_drew (S := fun W' => W'.cell? ⟨w.heap.size, 7, none⟩ = some (.slice A n c)) (by kernel_rfl) (hHeld) (fun hHeld => ?_)
  refine wpAnyH_take (i := 0) rfl (by kernel_rfl) (by kernel_rfl) (by kernel_rfl) (fun _ _ _ h => h) (Or.inl ⟨by rfl, by intro W hSW; (try dsimp only at hSW); go_simp; try (with_reducible rfl)⟩) hHeld ?_
  try simp only [Act.put, List.getElem_toArray, List.getElem_cons_zero, List.getElem_cons_succ, List.setIfInBounds_toArray, List.set_cons_zero, List.set_cons_succ]
  refine wpAnyH_take (i := 1) rfl (by kernel_rfl) (by kernel_rfl) (by kernel_rfl) (fun _ _ _ h => h) (Or.inl ⟨by rfl, by intro W hSW; (try dsimp only at hSW); go_simp; try (with_reducible rfl)⟩) hHeld ?_
  try simp only [Act.put, List.getElem_toArray, List.getElem_cons_zero, List.getElem_cons_succ, List.setIfInBounds_toArray, List.set_cons_zero, List.set_cons_succ]
  refine wpAnyH_take (i := 2) rfl (by kernel_rfl) (by kernel_rfl) (by kernel_rfl) (fun _ _ _ h => h) (Or.inl ⟨by rfl, by intro W hSW; (try dsimp only at hSW); go_simp; try (with_reducible rfl)⟩) hHeld ?_
  try simp only [Act.put, List.getElem_toArray, List.getElem_cons_zero, List.getElem_cons_succ, List.setIfInBounds_toArray, List.set_cons_zero, List.set_cons_succ]
  refine wpAnyH_take (i := 3) rfl (by kernel_rfl) (by kernel_rfl) (by kernel_rfl) (fun _ _ _ h => h) (Or.inl ⟨by rfl, by intro W hSW; (try dsimp only at hSW); go_simp; try (with_reducible rfl)⟩) hHeld ?_
  try simp only [Act.put, List.getElem_toArray, List.getElem_cons_zero, List.getElem_cons_succ, List.setIfInBounds_toArray, List.set_cons_zero, List.set_cons_succ]
  refine wpAnyH_ready (rs := [4]) (by kernel_rfl) (by simp) ?_
  refine AllReadyH.cons rfl (fun K hK => ?_) AllReadyH.nil
  go_simp
  refine (HM.out W1.drew (to_ HB0.out hD0)).mono ?_
  rintro e w1 ⟨A1, c1, rfl, h1, b1⟩
  have H1 := Lib.hid h1
  have HB1 := Lib.hid (to_ hD0 b1)
  clear h1 b1
  try go_wp2_with fail
  refine hK.out _ _ ((HX.out _ HB1.out).cell 7) ?_
  clear hK K hHeld
  intro hHeld
  try simp only [Act.put, List.getElem_toArray, List.getElem_cons_zero, List.getElem_cons_succ, List.setIfInBounds_toArray, List.set_cons_zero, List.set_cons_succ]
  refine wpAnyH_ready (rs := [5]) (by kernel_rfl) (by simp) ?_
  refine AllReadyH.cons rfl (fun K hK => ?_) AllReadyH.nil
  go_simp
  refine (HAF.out w1 (to_ HB0.out HB1.out) A1 c1 H1.out).mono ?_
  rintro e w2 ⟨A2, rfl, h2, b2⟩
  have HBW := Lib.hid h2
  have HB2 := Lib.hid (to_ HB1.out b2)
  clear h2 b2
  try go_wp2_with fail
  refine hK.out _ _ ((HX.out _ HB2.out).cell 7) ?_
  clear hK K hHeld
  intro hHeld
  try simp only [Act.put, List.getElem_toArray, List.getElem_cons_zero, List.getElem_cons_succ, List.setIfInBounds_toArray, List.set_cons_zero, List.set_cons_succ]
  refine wpAnyH_take (i := 6) rfl (by kernel_rfl) (by kernel_rfl) (by kernel_rfl) (fun _ _ _ h => h) (Or.inl ⟨by rfl, by intro W hSW; (try dsimp only at hSW); go_simp; try (with_reducible rfl)⟩) hHeld ?_
  try simp only [Act.put, List.getElem_toArray, List.getElem_cons_zero, List.getElem_cons_succ, List.setIfInBounds_toArray, List.set_cons_zero, List.set_cons_succ]
  refine wpAnyH_done (by kernel_rfl) ?_ _
  refine NoPanic.normal ?_
  go_wp2_with fail
  go_loopw [4] (fun i wr => ∃ k : Nat, k ≤ n ∧ i = .int .i64 (k : Int) ∧ Hid (inB f t (pnT o k) = true) ∧ Below w2.heap.size w2 wr) (fun i _ => n - (intOf i).toNat)
  case atStart => exact ⟨0, Nat.zero_le _, rfl, Lib.hid rfl, Below.refl _ _⟩
  case round =>
    obtain ⟨k, hk, rfl, HIN, hbel⟩ := hrel
    have HBE := Lib.hid hbel
    by_cases hlt : k < n
    · have hkI : (k : Int) < (n : Int) := by omega
      obtain ⟨ad, rfl, hc⟩ := bw_cells (BW.on HBW.out hbel) k hlt
      obtain ⟨b, hb⟩ : ∃ b, o k = b := ⟨_, rfl⟩
      rw [hb] at hc
      cases b with
      | true =>
        obtain ⟨c0, c1, c2, c3, c4, c5, c6, c7, c8⟩ := blk9 (HX.out wr (to_ HB2.out hbel))
        have HS := Lib.hid (inB_snoc f t (pnT o k) (k : Int))
        rw [HIN.out, ← pnT_yes hb] at HS
        have HC := Lib.hid (HI.out wr (k : Int))
        generalize (decide (f ≤ (k : Int)) && decide ((k : Int) < t)) = bl at HS HC
        clear hb hbel HIN
        cases bl with
        | true =>
          go_wp2_with (go_at_call 15; refine HC.out.mono ?_; rintro e w5 ⟨rfl, b5⟩; have HB5 := Lib.hid b5; clear b5)
          go_roundw
          case rel => exact ⟨k + 1, by omega, by go_num, HS, to_ HBE.out HB5.out⟩
          case measure => simp [intOf]; omega
        | false =>
          have HV := Lib.hid (show ckV f t (pnT o n) = 9 by unfold ckV; rw [inB_pre (pnT_pre o (show k + 1 ≤ n by omega)) HS.out]; rfl)
          go_wp2_with (go_at_call 15; refine HC.out.mono ?_; rintro e w5 ⟨rfl, b5⟩; have HB5 := Lib.hid b5; clear b5)
          go_ret
          exact ⟨by rw [HV.out]; rfl, to_ (to_ HB0.out (to_ HB2.out HBE.out)) HB5.out⟩
      | false =>
        have HS := Lib.hid (show inB f t (pnT o (k + 1)) = true by rw [pnT_no hb]; exact HIN.out)
        clear hb hbel HIN
        go_wp2_with fail
        go_roundw
        case rel => exact ⟨k + 1, by omega, by go_num, HS, HBE.out⟩
        case measure => simp [intOf]; omega
    · obtain rfl : k = n := by omega
      have HV := Lib.hid (show ckV f t (pnT o k) = 0 by unfold ckV; rw [if_pos HIN.out])
      clear hbel
      go_wp2_with fail
      go_ret
      exact ⟨by rw [HV.out]; rfl, to_ HB0.out (to_ HB2.out HBE.out)⟩
end Go.Proofs.Ythkbdclnnpcoiaa.By
