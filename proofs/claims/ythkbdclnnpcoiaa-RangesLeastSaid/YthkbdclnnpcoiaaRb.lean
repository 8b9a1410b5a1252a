/-
  WALKS of layer 18: the iterator of the places at which calls may be pending; In.
-/
import Derived.Test.YthkbdclnnpcoiaaRa
import Derived.Test.YthkbdclnnpcoiaaGi
namespace Go.Proofs.Ythkbdclnnpcoiaa.Rf
open Go.RowKit

theorem uponIn_wide {P : Program} {n : Nat} {o : Oper} {a : Act} {K : Act → World → Prop} {Q : Exit → Act → World → Prop} (r : Result Next) (h : o.upon P a K Q r) : o.uponIn Fence.wide n P a K Q r := by
  match r, h with
  | .ok (.value _) _, h => exact h
  | .ok .skip _, h => exact h
  | .ok (.defer _) _, h => exact h
  | .ok (.enter f args) w', h =>
    refine ⟨fun e => (by cases e), callsIn_wide.2 ?_⟩
    exact h.mono fun e w'' he => by cases e <;> exact he
  | .ok (.row row args) w', h =>
    exact ⟨fun e => (by cases e), fun c cs _ => let ⟨v, w2, r, s⟩ := h c cs; ⟨v, w2, r, stepsIn_wide.2 s⟩⟩
  | .halt (.panic _) _, h => exact h

theorem opIn_wide {P : Program} {n i : Nat} {ops : Array Oper} {a : Act} {w : World} {K : Act → World → Prop} {Q : Exit → Act → World → Prop} (h : wpOp P ops (Only Q) i K a w) : wpOpIn Fence.wide n P ops (Only Q) i K a w := by
  unfold wpOp at h
  unfold wpOpIn
  split at h
  · rename_i e; rw [e]; exact h
  · rename_i o e
    rw [e]
    simp only
    by_cases hw : Region.wanted o (yielded ops a.tmps) = true
    · rw [if_pos hw] at h ⊢
      rcases h with h | ⟨_, a', w', h⟩
      · refine ⟨fun _ _ => trivial, ?_⟩
        have : o.semAt Fence.wide.round a.eval = execOp a.eval o := rfl
        rw [this]
        exact uponIn_wide _ h
      · exact h.elim
    · rw [if_neg hw] at h ⊢
      exact ⟨fun _ _ => trivial, h⟩

theorem anyIn_wide {P : Program} {n : Nat} {ops : Array Oper} {Q : Exit → Act → World → Prop} : ∀ (f : Nat) (listed : Array Bool) (a : Act) (w : World), wpAny P .any ops (Only Q) f listed a w → wpAnyIn Fence.wide n P .any ops (Only Q) f listed a w
  | 0, _, _, _, h => h
  | f + 1, _, _, _, h => ⟨h.1, fun i hi => opIn_wide (wpOp_mono (fun a' w' h' => anyIn_wide f _ a' w' h') (h.2 i hi))⟩

theorem wpIn_region_wide {P : Program} {id n : Nat} {ops : Array Oper} {S : World → Prop} {Q : Exit → Act → World → Prop} {a : Act} {w : World} (hm : P.follows .mixedOrders = true)
    (h : wpAnyH P .any ops (Only Q) S ops.size (Array.replicate ops.size false) a w.drew) : (Code.region id ops true).wpIn Fence.wide n P Q a w :=
  wpIn_mono (wpIn_region_any hm (anyIn_wide _ _ _ _ (wpAny_of_held _ _ _ _ h))) Only.imp
end Go.Proofs.Ythkbdclnnpcoiaa.Rf

namespace Go.Proofs.Ythkbdclnnpcoiaa.By
open Go.RowKit
open Mem Gm Rf
set_option linter.unusedSimpArgs false
attribute [local go_sem] Oper.semAt_some

/-- The places that are told, of the first k. -/
def pnT (o : Nat → Bool) (k : Nat) : List Int := ((List.range k).filter o).map fun (i : Nat) => (i : Int)
theorem pnT_yes {o : Nat → Bool} {k : Nat} (h : o k = true) : pnT o (k + 1) = pnT o k ++ [(k : Int)] := by
  unfold pnT; rw [List.range_succ, List.filter_append]; simp [h]
theorem pnT_no {o : Nat → Bool} {k : Nat} (h : o k = false) : pnT o (k + 1) = pnT o k := by
  unfold pnT; rw [List.range_succ, List.filter_append]; simp [h]
theorem pnT_up (o : Nat → Bool) (k : Nat) : pnT o k <+: pnT o (k + 1) := by
  cases h : o k with
  | true => rw [pnT_yes h]; exact List.prefix_append _ _
  | false => rw [pnT_no h]; exact List.prefix_refl _
theorem pnT_pre (o : Nat → Bool) {k n : Nat} (h : k ≤ n) : pnT o k <+: pnT o n := by
  obtain ⟨d, rfl⟩ := Nat.le.dest h
  clear h
  induction d with
  | zero => exact List.prefix_refl _
  | succ d ih => exact ih.trans (pnT_up o (k + d))
theorem pnT_mem {o : Nat → Bool} {n : Nat} {x : Int} (h : x ∈ pnT o n) : ∃ i : Nat, x = (i : Int) ∧ i < n ∧ o i = true := by
  unfold pnT at h
  obtain ⟨i, hi, rfl⟩ := List.mem_map.1 h
  rw [List.mem_filter, List.mem_range] at hi
  exact ⟨i, rfl, hi.1, hi.2⟩

theorem pending_any (A : Option Addr) (n c : Nat) (w : World) :
    Calls Try.prog 16 #[.slice A n c] w fun e w' => e = .returned (.func (.func 18) #[] #[.pointer (some ⟨w.heap.size, 0, none⟩)]) ∧ w' = w.alloc (.cells #[.slice A n c] 24) := by
  go_enter Try.func16, Try.ntmps16
  go_wp2
  go_ret
  exact ⟨rfl, rfl⟩

/-- What a function's code tells: behind which places calls may be pending. -/
def pdO (n : Nat) (O T : Nat → Int) : Nat → Bool := reach (gph n O T) (behs n O T (mkT O n))

theorem reach_cells {w : World} {B n c : Nat} {A : Option Addr} {g : List (List Int)} {fs : List Int} (h : SlV w B (.slice A n c) (reachV g fs)) (hg : g.length = n) (j : Nat) (hj : j < n) : ∃ ad, A = some ad ∧ w.cell? (ad.add j) = some (.bool (reach g fs j)) := by
  have hl : (reachV g fs).length = n := by unfold reachV; simp [hg]
  have hv : (reachV g fs)[j]? = some (.bool (reach g fs j)) := by
    unfold reachV
    rw [List.getElem?_map, List.getElem?_range (by omega)]; rfl
  rcases h.inv with ⟨_, h1, _⟩ | ⟨ad, rfl, _, _, _, hr⟩
  · rw [h1] at hl; simp at hl; omega
  · exact ⟨ad, rfl, (hr j _ hv).2⟩

theorem drew_below (W : World) : Below W.heap.size W W.drew := ⟨rfl, rfl, rfl, Nat.le_refl _, fun _ _ => rfl⟩

set_option maxRecDepth 100000 in
set_option maxHeartbeats 4000000 in
theorem pend1_in (q : Nat) (hq : 1 ≤ q) (l Bg : Nat) (A : Option Addr) (n c : Nat) (O T : Nat → Int) (o : Nat → Bool) (J Jx : List Int → World → Prop) (W : World)
    (hBg : W.cell? ⟨Bg, 0, none⟩ = some (.slice A n c)) (hC : CW W A n c O T) (hn : n ≤ 1000) (ho : pdO n O T = o)
    (hJ : ∀ s X Y, J s X → Keeps (fun k => k < W.heap.size) X Y → J s Y)
    (hY : ∀ pre x W1, J pre W1 → pre ++ [x] <+: pnT o n → YieldAt Fence.wide (q - 1) Try.prog l #[.int .i64 x] W1 fun e W' =>
      (e = .returned (.bool true) ∧ J (pre ++ [x]) W' ∧ Keeps (fun k => W.heap.size ≤ k) W1 W') ∨ (e = .returned (.bool false) ∧ Jx (pre ++ [x]) W'))
    (h0 : J [] W) :
    CallsIn Fence.wide q Try.prog 18 #[.func (.yield l) #[] #[], .pointer (some ⟨Bg, 0, none⟩)] W fun e W' => (∃ v, e = .returned v) ∧
      (J (pnT o n) W' ∨ ∃ pre, pre <+: pnT o n ∧ Jx pre W') := by
  have hBl := World.block_lt_of_cell? W _ hBg
  obtain ⟨L, hL⟩ : ∃ L, (mkT O n).length = L := ⟨_, rfl⟩
  have HLN := Lib.hid (show L ≤ 1000 by rw [← hL]; have := mkT_length O n; omega)
  have HM := Lib.hid (fun X (h : CW X A n c O T) => marks_any X A n c L O T h hn hL)
  have HA := Lib.hid (fun X (A2 : Option Addr) (c2 : Nat) (h : CW X A n c O T) (hm : IW X (.slice A2 L c2) (mkT O n)) => after2_any X A A2 n c c2 L O T (mkT O n) h hL hm hn HLN.out)
  have HC := Lib.hid hC
  have HJ := Lib.hid hJ
  have HY := Lib.hid hY
  have HO := Lib.hid ho
  have hHeld : W.drew.cell? ⟨Bg, 0, none⟩ = some (.slice A n c) := hBg
  clear hJ hY hL ho hBg hC
  refine callsIn_of_wp Try.func18 rfl trivial ?_ rfl
  simp only [Try.ntmps18, List.size_toArray, List.length_cons, List.length_nil, Nat.reduceAdd, Nat.reduceSub, Array.replicate_succ, Array.replicate_zero, List.push_toArray, List.append_toArray, List.nil_append, List.cons_append]
  gi_wp2
  refine wpIn_region_wide (S := fun W' => W'.cell? ⟨Bg, 0, none⟩ = some (.slice A n c)) (by kernel_rfl) ?_
  refine wpAnyH_take (i := 0) rfl (by kernel_rfl) (by kernel_rfl) (by kernel_rfl) (fun _ _ _ h => h) (Or.inl ⟨by rfl, by intro W hSW; (try dsimp only at hSW); go_simp; try (with_reducible rfl)⟩) hHeld ?_
  try simp only [Act.put, List.getElem_toArray, List.getElem_cons_zero, List.getElem_cons_succ, List.setIfInBounds_toArray, List.set_cons_zero, List.set_cons_succ]
  refine wpAnyH_take (i := 1) rfl (by kernel_rfl) (by kernel_rfl) (by kernel_rfl) (fun _ _ _ h => h) (Or.inl ⟨by rfl, by intro W hSW; (try dsimp only at hSW); go_simp; try (with_reducible rfl)⟩) hHeld ?_
  try simp only [Act.put, List.getElem_toArray, List.getElem_cons_zero, List.getElem_cons_succ, List.setIfInBounds_toArray, List.set_cons_zero, List.set_cons_succ]
  refine wpAnyH_take (i := 5) rfl (by kernel_rfl) (by kernel_rfl) (by kernel_rfl) (fun _ _ _ h => h) (Or.inl ⟨by rfl, by intro W hSW; (try dsimp only at hSW); go_simp; try (with_reducible rfl)⟩) hHeld ?_
  try simp only [Act.put, List.getElem_toArray, List.getElem_cons_zero, List.getElem_cons_succ, List.setIfInBounds_toArray, List.set_cons_zero, List.set_cons_succ]
  refine wpAnyH_ready (rs := [2]) (by kernel_rfl) (by simp) ?_
  refine AllReadyH.cons rfl (fun K hK => ?_) AllReadyH.nil
  go_simp
  refine (HM.out W.drew (HC.out.on (drew_below W))).mono ?_
  rintro e w1 ⟨A1, c1, rfl, h1, b1⟩
  have H1 := Lib.hid h1
  have HB1 := Lib.hid (to_ (drew_below W) b1)
  clear h1 b1
  try go_wp2_with fail
  refine hK.out _ _ ((HB1.out.cell (p := ⟨Bg, 0, none⟩) hBl).trans hHeld) ?_
  clear hK K hHeld
  intro hHeld
  try simp only [Act.put, List.getElem_toArray, List.getElem_cons_zero, List.getElem_cons_succ, List.setIfInBounds_toArray, List.set_cons_zero, List.set_cons_succ]
  refine wpAnyH_ready (rs := [3]) (by kernel_rfl) (by simp) ?_
  refine AllReadyH.cons rfl (fun K hK => ?_) AllReadyH.nil
  go_simp
  refine (HA.out w1 A1 c1 (HC.out.on HB1.out) H1.out).mono ?_
  rintro e w2 ⟨A2, rfl, h2, b2, a2⟩
  have H2 := Lib.hid h2
  have HB2 := Lib.hid (to_ HB1.out b2)
  have HA2 := Lib.hid (fun ad e => Nat.le_trans HB1.out.size (a2 ad e))
  clear h2 b2 a2
  try go_wp2_with fail
  refine hK.out _ _ ((HB2.out.cell (p := ⟨Bg, 0, none⟩) hBl).trans (HB1.out.cell (p := ⟨Bg, 0, none⟩) hBl |>.symm.trans hHeld)) ?_
  clear hK K hHeld
  intro hHeld
  try simp only [Act.put, List.getElem_toArray, List.getElem_cons_zero, List.getElem_cons_succ, List.setIfInBounds_toArray, List.set_cons_zero, List.set_cons_succ]
  refine wpAnyH_take (i := 4) rfl (by kernel_rfl) (by kernel_rfl) (by kernel_rfl) (fun _ _ _ h => h) (Or.inl ⟨by rfl, by intro W hSW; (try dsimp only at hSW); go_simp; try (with_reducible rfl)⟩) hHeld ?_
  try simp only [Act.put, List.getElem_toArray, List.getElem_cons_zero, List.getElem_cons_succ, List.setIfInBounds_toArray, List.set_cons_zero, List.set_cons_succ]
  refine wpAnyH_done (by kernel_rfl) ?_ _
  dsimp only [Only, Exit.then]
  have hJ2 : J [] w2 := HJ.out _ _ _ h0 (Keeps.of_below HB2.out fun k hk _ => hk)
  have HR := Lib.hid (show ∀ j, j < n → ∃ ad, A2 = some ad ∧ W.heap.size ≤ ad.block ∧ w2.cell? (ad.add j) = some (.bool (o j)) from fun j hj => by
    obtain ⟨ad, e, hc⟩ := reach_cells H2.out (gph_length ..) j hj
    exact ⟨ad, e, HA2.out ad e, by rw [hc, ← HO.out]; rfl⟩)
  clear HM HA HC HJ HO h0 H1 H2 HA2 HB1 HLN hHeld
  gi_wp2
  gi_loopw [10] (fun i wr => ∃ k : Nat, k ≤ n ∧ i = .int .i64 k ∧ J (pnT o k) wr ∧ Keeps (fun k => W.heap.size ≤ k) w2 wr) (fun i _ => n - (intOf i).toNat)
  case atStart => exact ⟨0, Nat.zero_le _, rfl, hJ2, Keeps.refl _ _⟩
  case round =>
    obtain ⟨k, hk, rfl, hJ3, hK3⟩ := hrel
    by_cases hlt : k < n
    · have hkI : (k : Int) < (n : Int) := by omega
      obtain ⟨ad, rfl, hblk, hc⟩ := HR.out k hlt
      have hcell := hK3.cell (by rw [add_block]; exact hblk) hc
      obtain ⟨b, hb⟩ : ∃ b, o k = b := ⟨_, rfl⟩
      rw [hb] at hcell
      clear hc
      cases b with
      | true =>
        have HX := Lib.hid (pnT_yes hb)
        have hpre : pnT o k ++ [(k : Int)] <+: pnT o n := by rw [← pnT_yes hb]; exact pnT_pre o hlt
        obtain ⟨fn, tmps, assign, body, hy, hR⟩ := HY.out _ (k : Int) wr hJ3 hpre
        try dsimp only at hy
        clear hb
        gi_wp2
        refine hR.mono ?_
        rintro e W3 (⟨rfl, hJ4, hk4⟩ | ⟨rfl, hJx4⟩)
        · gi_wp2
          go_roundw
          case rel => exact ⟨k + 1, by omega, by go_num, by rw [HX.out]; exact hJ4, hK3.trans hk4⟩
          case measure => simp [intOf]; omega
        · gi_wp2
          refine bodyPost_ret (results_none rfl _ _ _) rfl ?_
          exact ⟨⟨_, rfl⟩, .inr ⟨_, hpre, hJx4⟩⟩
      | false =>
        have HX := Lib.hid (pnT_no hb)
        clear hb
        gi_wp2
        refine ⟨fun _ h => (by cases h), ?_⟩
        gi_wp2
        go_roundw
        case rel => exact ⟨k + 1, by omega, by go_num, by rw [HX.out]; exact hJ3, hK3⟩
        case measure => simp [intOf]; omega
    · obtain rfl : k = n := by omega
      gi_wp2
      go_end0
      exact ⟨⟨_, rfl⟩, .inl hJ3⟩

theorem in_any (w : World) (x0 x1 x2 x3 x6 x7 x8 : Value) (f t p : Int) :
    Calls Try.prog 14 #[.agg #[x0, x1, x2, x3, .int .i64 f, .int .i64 t, x6, x7, x8], .int .i64 p] w fun e w' => e = .returned (.bool (decide (f ≤ p) && decide (p < t))) ∧ Below w.heap.size w w' := by
  obtain ⟨bl, hbl⟩ : ∃ bl, decide (p < t) = bl := ⟨_, rfl⟩
  by_cases h : f ≤ p
  · have h1 : decide (f ≤ p) = true := decide_eq_true h
    rw [h1, hbl]
    go_enter Try.func14, Try.ntmps14
    go_wp2_with fail
    go_ret
    exact ⟨by simp, alloc_ _ _⟩
  · have h1 : decide (f ≤ p) = false := decide_eq_false h
    rw [h1, hbl]
    go_enter Try.func14, Try.ntmps14
    go_wp2_with fail
    go_ret
    exact ⟨by simp, alloc_ _ _⟩
theorem rin_any (w : World) (x0 x1 x2 x3 x6 x7 x8 : Value) (f t p : Int) :
    Calls Try.prog 15 #[.agg #[x0, x1, x2, x3, .int .i64 f, .int .i64 t, x6, x7, x8], .int .i64 p] w fun e w' => e = .returned (.bool (decide (f ≤ p) && decide (p < t))) ∧ Below w.heap.size w w' := by
  obtain ⟨bl, hbl⟩ : ∃ bl, decide (p < t) = bl := ⟨_, rfl⟩
  by_cases h : f ≤ p
  · have h1 : decide (f ≤ p) = true := decide_eq_true h
    rw [h1, hbl]
    go_enter Try.func15, Try.ntmps15
    go_wp2_with fail
    go_ret
    exact ⟨by simp, alloc_ _ _⟩
  · have h1 : decide (f ≤ p) = false := decide_eq_false h
    rw [h1, hbl]
    go_enter Try.func15, Try.ntmps15
    go_wp2_with fail
    go_ret
    exact ⟨by simp, alloc_ _ _⟩
end Go.Proofs.Ythkbdclnnpcoiaa.By
