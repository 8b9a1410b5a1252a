/-
  WALKS of layer 15: Put, whose bytes are the call's own.
-/
import Derived.Test.YthkbdclnnpcoiaaDoorEx
namespace Go.Proofs.YthkbdclnnpcoiaaDoor.By
open Go.RowKit
open Mem Gm Rf
set_option linter.unusedSimpArgs false
set_option linter.unusedVariables false

/-- Bytes of the call's own that are answered. -/
def ONn (N : Nat) (bs : List UInt8) (w : World) (e : Ending) (w' : World) : Prop := ∃ A c, e = .returned (.slice A N c) ∧ w'.ownsRow w.heap.size 5 1 (.slice A N c) N (u8s bs) ∧ Below w.heap.size w w'
def OBn (bs : List UInt8) (w : World) (e : Ending) (w' : World) : Prop := ONn bs.length bs w e w'
theorem obn_of {bs : List UInt8} {w w' : World} {e : Ending} (h : Owns w (u8s bs) e w') : OBn bs w e w' := by
  obtain ⟨v, rfl, h1, h2⟩ := h
  obtain ⟨A, c, rfl⟩ := own_formW h1
  rw [u8s_length] at h1 ⊢
  exact ⟨A, c, rfl, h1, h2⟩
theorem obn_n {N : Nat} {bs cs : List UInt8} {w w' : World} {e : Ending} (hc : cs = bs) (hN : bs.length = N) (h : OBn cs w e w') : ONn N bs w e w' := by subst hc hN; exact h
theorem own_lower {w : World} {a b n k : Nat} {E : TypeId} {v : Value} {xs : List Value} (hab : b ≤ a) (h : w.ownsRow a E k v n xs) : w.ownsRow b E k v n xs := by
  obtain ⟨h1, h2⟩ := h
  refine ⟨h1, ?_⟩
  rcases h2 with h2 | ⟨g, cap, cur, hv, hb, r⟩
  · exact .inl h2
  · exact .inr ⟨g, cap, cur, hv, Nat.le_trans hab hb, r⟩
theorem cat_own (W : World) (ps : List (Option Addr × Nat × List UInt8)) (k : Nat) (cs : Array Value) (t : TypeId) (hk : ps.length = k) (hcs : cs.toList = ps.map pvb) (hp : ∀ p ∈ ps, SlV W W.heap.size (pvb p) (u8s p.2.2)) (hl : (ps.flatMap fun p => p.2.2).length ≤ 100000000) (hk9 : k ≤ 1000) :
    Calls Tryd.prog 29 #[.slice (some ⟨W.heap.size, 0, none⟩) k k] (W.alloc (.cells cs t)) (OBn (ps.flatMap fun p => p.2.2) (W.alloc (.cells cs t))) := by
  have hb := alloc_ W (.cells cs t)
  have e1 : ∀ p : Option Addr × Nat × List UInt8, pv (p.1, p.2.1, u8s p.2.2) = pvb p := fun p => by unfold pv pvb; rw [u8s_length]
  have hfl : flat (ps.map fun p => (p.1, p.2.1, u8s p.2.2)) (ps.map fun p => (p.1, p.2.1, u8s p.2.2)).length = u8s (ps.flatMap fun p => p.2.2) := by
    unfold flat
    rw [List.take_length, List.map_map]
    clear hk hcs hp hl hk9
    induction ps with
    | nil => rfl
    | cons p ps ih => rw [List.map_cons, List.flatten_cons, ih, List.flatMap_cons, u8s_append]; rfl
  have h := concat_any W.heap.size W.heap.size (ps.map fun p => (p.1, p.2.1, u8s p.2.2)) (W.alloc (.cells cs t))
    (fun j hj => by
      have hj' : j < ps.length := by simpa using hj
      rw [(Blk.new W _ _).cell, ← Array.getElem?_toList, hcs, List.getElem?_map, List.getElem?_eq_getElem hj', List.getElem_map, e1]; rfl)
    hb.size
    (fun p hpp => by
      obtain ⟨q, hq, rfl⟩ := List.mem_map.1 hpp
      rw [e1]; exact (hp q hq).below hb)
    (fun p hpp => by
      obtain ⟨q, hq, rfl⟩ := List.mem_map.1 hpp
      exact u8s_one _)
    (by rw [hfl, u8s_length]; omega) (by rw [List.length_map]; omega)
  rw [hfl, List.length_map, hk] at h
  exact h.mono fun e w' hh => obn_of hh


set_option maxRecDepth 100000 in
set_option maxHeartbeats 4000000 in
theorem putD_own (w : World) (A2 : Option Addr) (m c2 : Nat) (bs : List UInt8) (kd : Int) (AW AR : Option Addr) (nW cW nR cR : Nat) (ws : List Int) (rs : List Rl) (hm : bs.length = m) (hb : SlV w w.heap.size (.slice A2 m c2) (u8s bs)) (hml : m ≤ 100000) (hW : IW w (.slice AW nW cW) ws) (hWL : ws.length = nW) (hWn : nW ≤ 10000) (hR : RlL w AR nR cR rs) (hRn : nR ≤ 10000) :
    Calls Tryd.prog 15 #[.slice A2 m c2, .agg #[.int .i64 kd, .slice AW nW cW, .slice AR nR cR]] w (ONn (bs ++ dtB kd ws rs).length (bs ++ dtB kd ws rs) w) := by
  have hRL : rs.length = nR := hR.1
  obtain ⟨W1, hW1⟩ : ∃ W1, w.alloc (.cells #[.int .i64 kd, .slice AW nW cW, .slice AR nR cR] 25) = W1 := ⟨_, rfl⟩
  have hsz1 : w.heap.size < W1.heap.size := by rw [← hW1]; simp
  have HB0 := Lib.hid (show Below w.heap.size w W1 by rw [← hW1]; exact alloc_ _ _)
  have HX := Lib.hid (show ∀ W, Below W1.heap.size W1 W → Blk W w.heap.size 25 #[.int .i64 kd, .slice AW nW cW, .slice AR nR cR] from fun W hb => (hb.block _ hsz1).trans (by rw [← hW1]; exact Blk.new w _ _))
  have HN := Lib.hid (fun n W => (number_any n W).mono fun _ _ hh => ban_of hh)
  have HLW := Lib.hid (fun W (hb : Below w.heap.size w W) => (listW_any W AW nW cW ws (hW.on hb) hWL (by omega)).mono fun _ _ hh => ban_of hh)
  have HLR := Lib.hid (fun W (hb : Below w.heap.size w W) => (listR_any W AR nR cR rs (hR.on hb) (by omega)).mono fun _ _ hh => ban_of hh)
  have HSB := Lib.hid (fun W (hbb : Below w.heap.size w W) => (show SlV W W.heap.size (.slice A2 m c2) (u8s bs) from (hb.below hbb).more hbb.size))
  have HFV := Lib.hid (show dtB kd ws rs = putB kd 1 ++ (putB (nW : Int) 1 ++ wsB ws) ++ (putB (nR : Int) 1 ++ rlsB rs) from by unfold dtB; rw [hWL, hRL])
  have HLL := Lib.hid (show bs.length + (putB kd 1).length + (putB (nW : Int) 1 ++ wsB ws).length + (putB (nR : Int) 1 ++ rlsB rs).length ≤ 1000000 by
    rw [List.length_append, List.length_append, putB1, putB1, putB1, wsB_len, rlsB_len]; omega)
  have HM := Lib.hid hm
  have hHeld := blk3 (HX.out W1.drew (drew_below W1))
  have HD0 := Lib.hid (drew_below W1)
  obtain ⟨N, hN⟩ : ∃ N, (bs ++ dtB kd ws rs).length = N := ⟨_, rfl⟩
  have HN9 := Lib.hid hN
  clear hN hb hm hml hW hWL hWn hR hRn hRL
  go_enter Tryd.func15, Tryd.ntmps15
  go_wp2_with fail
  clear hW1
  refine wp_region_noPanic ?_
  refine wp_region_held_drew (S := fun W' => W'.cell? ⟨w.heap.size, 0, none⟩ = some (.int .i64 kd) ∧ W'.cell? ⟨w.heap.size, 1, none⟩ = some (.slice AW nW cW) ∧ W'.cell? ⟨w.heap.size, 2, none⟩ = some (.slice AR nR cR)) (by kernel_rfl) (hHeld) (fun hHeld => ?_)
  refine wpAnyH_take (i := 0) rfl (by kernel_rfl) (by kernel_rfl) (by kernel_rfl) (fun _ _ _ h => h) (Or.inl ⟨by rfl, by intro W hSW; (try dsimp only at hSW); go_simp; try (with_reducible rfl)⟩) hHeld ?_
  try simp only [Act.put, List.getElem_toArray, List.getElem_cons_zero, List.getElem_cons_succ, List.setIfInBounds_toArray, List.set_cons_zero, List.set_cons_succ]
  refine wpAnyH_take (i := 1) rfl (by kernel_rfl) (by kernel_rfl) (by kernel_rfl) (fun _ _ _ h => h) (Or.inl ⟨by rfl, by intro W hSW; (try dsimp only at hSW); go_simp; try (with_reducible rfl)⟩) hHeld ?_
  try simp only [Act.put, List.getElem_toArray, List.getElem_cons_zero, List.getElem_cons_succ, List.setIfInBounds_toArray, List.set_cons_zero, List.set_cons_succ]
  refine wpAnyH_take (i := 2) rfl (by kernel_rfl) (by kernel_rfl) (by kernel_rfl) (fun _ _ _ h => h) (Or.inl ⟨by rfl, by intro W hSW; (try dsimp only at hSW); go_simp; try (with_reducible rfl)⟩) hHeld ?_
  try simp only [Act.put, List.getElem_toArray, List.getElem_cons_zero, List.getElem_cons_succ, List.setIfInBounds_toArray, List.set_cons_zero, List.set_cons_succ]
  refine wpAnyH_take (i := 4) rfl (by kernel_rfl) (by kernel_rfl) (by kernel_rfl) (fun _ _ _ h => h) (Or.inl ⟨by rfl, by intro W hSW; (try dsimp only at hSW); go_simp; try (with_reducible rfl)⟩) hHeld ?_
  try simp only [Act.put, List.getElem_toArray, List.getElem_cons_zero, List.getElem_cons_succ, List.setIfInBounds_toArray, List.set_cons_zero, List.set_cons_succ]
  refine wpAnyH_take (i := 5) rfl (by kernel_rfl) (by kernel_rfl) (by kernel_rfl) (fun _ _ _ h => h) (Or.inl ⟨by rfl, by intro W hSW; (try dsimp only at hSW); go_simp; try (with_reducible rfl)⟩) hHeld ?_
  try simp only [Act.put, List.getElem_toArray, List.getElem_cons_zero, List.getElem_cons_succ, List.setIfInBounds_toArray, List.set_cons_zero, List.set_cons_succ]
  refine wpAnyH_take (i := 7) rfl (by kernel_rfl) (by kernel_rfl) (by kernel_rfl) (fun _ _ _ h => h) (Or.inl ⟨by rfl, by intro W hSW; (try dsimp only at hSW); go_simp; try (with_reducible rfl)⟩) hHeld ?_
  try simp only [Act.put, List.getElem_toArray, List.getElem_cons_zero, List.getElem_cons_succ, List.setIfInBounds_toArray, List.set_cons_zero, List.set_cons_succ]
  refine wpAnyH_take (i := 8) rfl (by kernel_rfl) (by kernel_rfl) (by kernel_rfl) (fun _ _ _ h => h) (Or.inl ⟨by rfl, by intro W hSW; (try dsimp only at hSW); go_simp; try (with_reducible rfl)⟩) hHeld ?_
  try simp only [Act.put, List.getElem_toArray, List.getElem_cons_zero, List.getElem_cons_succ, List.setIfInBounds_toArray, List.set_cons_zero, List.set_cons_succ]
  refine wpAnyH_ready (rs := [3]) (by kernel_rfl) (by simp) ?_
  refine AllReadyH.cons rfl (fun K hK => ?_) AllReadyH.nil
  go_simp
  refine (HN.out _ _).mono ?_
  rintro e w2 ⟨A2', c2', rfl, h2, b2⟩
  have H2 := Lib.hid h2
  have HB2 := Lib.hid (to_ HD0.out b2)
  clear h2 b2
  try go_wp2_with fail
  refine hK.out _ _ (blk3 (HX.out _ HB2.out)) ?_
  clear hK K hHeld
  intro hHeld
  try simp only [Act.put, List.getElem_toArray, List.getElem_cons_zero, List.getElem_cons_succ, List.setIfInBounds_toArray, List.set_cons_zero, List.set_cons_succ]
  refine wpAnyH_ready (rs := [6]) (by kernel_rfl) (by simp) ?_
  refine AllReadyH.cons rfl (fun K hK => ?_) AllReadyH.nil
  go_simp
  refine (HLW.out w2 (to_ HB0.out HB2.out)).mono ?_
  rintro e w3 ⟨A3, c3, rfl, h3, b3⟩
  have H3 := Lib.hid h3
  have H23 := Lib.hid ((H2.out.below b3).more b3.size)
  have HB3 := Lib.hid (to_ HB2.out b3)
  clear h3 b3
  try go_wp2_with fail
  refine hK.out _ _ (blk3 (HX.out _ HB3.out)) ?_
  clear hK K hHeld
  intro hHeld
  try simp only [Act.put, List.getElem_toArray, List.getElem_cons_zero, List.getElem_cons_succ, List.setIfInBounds_toArray, List.set_cons_zero, List.set_cons_succ]
  refine wpAnyH_ready (rs := [9]) (by kernel_rfl) (by simp) ?_
  refine AllReadyH.cons rfl (fun K hK => ?_) AllReadyH.nil
  go_simp
  refine (HLR.out w3 (to_ HB0.out HB3.out)).mono ?_
  rintro e w4 ⟨A4, c4, rfl, h4, b4⟩
  have H4 := Lib.hid h4
  have H24 := Lib.hid ((H23.out.below b4).more b4.size)
  have H34 := Lib.hid ((H3.out.below b4).more b4.size)
  have HB4 := Lib.hid (to_ HB3.out b4)
  clear h4 b4
  try go_wp2_with fail
  refine hK.out _ _ (blk3 (HX.out _ HB4.out)) ?_
  clear hK K hHeld
  intro hHeld
  try simp only [Act.put, List.getElem_toArray, List.getElem_cons_zero, List.getElem_cons_succ, List.setIfInBounds_toArray, List.set_cons_zero, List.set_cons_succ]
  have HAL := Lib.hid (fun o => alloc_ w4 o)
  refine wpAnyH_ready (rs := [10]) (by kernel_rfl) (by simp) ?_
  refine AllReadyH.cons rfl (fun K hK => ?_) AllReadyH.nil
  go_simp
  refine hK.out _ _ (blk3 (HX.out _ (to_ HB4.out (HAL.out _)))) ?_
  clear hK K hHeld
  intro hHeld
  try simp only [Act.put, List.getElem_toArray, List.getElem_cons_zero, List.getElem_cons_succ, List.setIfInBounds_toArray, List.set_cons_zero, List.set_cons_succ]
  refine wpAnyH_ready (rs := [11]) (by kernel_rfl) (by simp) ?_
  refine AllReadyH.cons rfl (fun K hK => ?_) AllReadyH.nil
  go_simp
  refine ((cat_own w4 [(A2, c2, bs), (A2', c2', putB kd 1), (A3, c3, putB (nW : Int) 1 ++ wsB ws), (A4, c4, putB (nR : Int) 1 ++ rlsB rs)] 4 _ _ rfl (by simp [pvb, HM.out]) (fun p hp => by
      simp only [List.mem_cons, List.not_mem_nil, or_false] at hp
      rcases hp with rfl | rfl | rfl | rfl
      · have := HSB.out w4 (to_ HB0.out HB4.out)
        unfold pvb; rw [HM.out]; exact this
      · exact H24.out
      · exact H34.out
      · exact H4.out) (by have := HLL.out; simp only [List.flatMap_cons, List.flatMap_nil, List.length_append, List.append_nil] at this ⊢; omega) (by decide)).mono fun _ _ hh => obn_n (by rw [HFV.out]; simp [List.append_assoc]) HN9.out hh).mono ?_
  rintro e w5 ⟨A5, c5, rfl, h5, b5⟩
  have HB5 := Lib.hid (to_ (to_ HB4.out (HAL.out _)) b5)
  have H5 := Lib.hid h5
  clear b5 h5
  try go_wp2_with fail
  refine hK.out _ _ (blk3 (HX.out _ HB5.out)) ?_
  clear hK K hHeld
  intro hHeld
  try simp only [Act.put, List.getElem_toArray, List.getElem_cons_zero, List.getElem_cons_succ, List.setIfInBounds_toArray, List.set_cons_zero, List.set_cons_succ]
  refine wpAnyH_take (i := 12) rfl (by kernel_rfl) (by kernel_rfl) (by kernel_rfl) (fun _ _ _ h => h) (Or.inl ⟨by rfl, by intro W hSW; (try dsimp only at hSW); go_simp; try (with_reducible rfl)⟩) hHeld ?_
  try simp only [Act.put, List.getElem_toArray, List.getElem_cons_zero, List.getElem_cons_succ, List.setIfInBounds_toArray, List.set_cons_zero, List.set_cons_succ]
  refine wpAnyH_done (by kernel_rfl) ?_ _
  refine NoPanic.normal ?_
  go_wp2_with fail
  go_ret
  have h9 := own_lower (b := w.heap.size) (by have := HB0.out.size; have := HB4.out.size; have := (HAL.out (.cells #[] 5)).size; simp; omega) H5.out
  rw [HN9.out]
  exact ⟨A5, c5, rfl, h9, to_ HB0.out HB5.out⟩
end Go.Proofs.YthkbdclnnpcoiaaDoor.By
