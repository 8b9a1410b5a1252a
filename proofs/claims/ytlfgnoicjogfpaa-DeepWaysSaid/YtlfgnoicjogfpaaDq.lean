/-
  WALK of layer 12's document: Depths.
-/
import Derived.Test.YtlfgnoicjogfpaaDp
namespace Go.Proofs.Ytlfgnoicjogfpaa.By
open Go.RowKit
open Mem Gm Rf Dp
set_option linter.unusedSimpArgs false

theorem on_none2 {g : List (List Int)} {ins : List Bool} {N : Nat} (hN : g.length = N) : decide ((ronL N ins (witG g ins) N).length = 0) = (ordV g ins).isSome := by
  subst hN
  cases h : ordV g ins with
  | none =>
    obtain ⟨x, hx⟩ := (ordV_none g ins).1 h
    rw [decide_eq_false]
    · rfl
    · intro h0
      have := List.eq_nil_of_length_eq_zero h0
      have h1 := ronL_mem.2 hx
      rw [this] at h1; cases h1
  | some l =>
    rw [decide_eq_true]
    · rfl
    · cases h2 : ronL g.length ins (witG g ins) g.length with
      | nil => rfl
      | cons x t =>
        have h3 : Cy.Circ (EM g ins) x := ronL_mem.1 (by rw [h2]; exact List.mem_cons_self)
        rw [(ordV_none g ins).2 ⟨x, h3⟩] at h; cases h

/-- After so many rounds. -/
def rndsL (g : List (List Int)) (ins : List Bool) (own : List Int) (rest step : Int) (k : Nat) : List Int := (List.range g.length).map (rnds (memV ins) (adjC g) (ownV own) (bndV rest) (bndV step) k)
theorem rndsL_next (g : List (List Int)) (ins : List Bool) (own : List Int) (rest step : Int) (k : Nat) : (List.range g.length).map (rndF g ins own rest step fun p => el (rndsL g ins own rest step k) p) = rndsL g ins own rest step (k + 1) := by
  unfold rndsL
  refine List.map_congr_left fun p hp => ?_
  show rnd _ _ _ _ _ _ p = rnd _ _ _ _ _ _ p
  refine rnd_congr fun e he => ?_
  show el _ e = _
  rw [el_range (E_iff.1 (adjC_mem.1 he)).2.1]
theorem rnds_ok (g : List (List Int)) (ins : List Bool) (own : List Int) (rest step : Int) : ∀ (k p : Nat), 0 ≤ rnds (memV ins) (adjC g) (ownV own) (bndV rest) (bndV step) k p ∧ rnds (memV ins) (adjC g) (ownV own) (bndV rest) (bndV step) k p ≤ cap
  | 0, _ => ⟨Int.le_refl 0, by show (0 : Int) ≤ cap; unfold cap; omega⟩
  | k + 1, p => rndF_ok g ins own rest step _ p
theorem rndsL_ok (g : List (List Int)) (ins : List Bool) (own : List Int) (rest step : Int) (k j : Nat) : 0 ≤ el (rndsL g ins own rest step k) j ∧ el (rndsL g ins own rest step k) j ≤ cap := by
  rcases Nat.lt_or_ge j g.length with h | h
  · unfold rndsL
    rw [el_range h]
    exact rnds_ok _ _ _ _ _ _ _
  · have : el (rndsL g ins own rest step k) j = 0 := by
      unfold el
      rw [List.getD_eq_getElem?_getD, List.getElem?_eq_none (by unfold rndsL; simp; exact h)]; rfl
    rw [this]
    exact ⟨Int.le_refl 0, by unfold cap; omega⟩

theorem orde_of {g : List (List Int)} {ins : List Bool} {l : List Nat} (ho : Ordered g.length (RM g ins) (memV ins) l) : Orde (memV ins) (adjC g) l where
  nodup := ho.nodup
  isin x hx := ((ho.mem x).1 hx).2
  on a p b hab e he hm := by
    have hE := adjC_mem.1 he
    have hpl : p ∈ l := by rw [hab]; simp
    have hel : e ∈ l := (ho.mem e).2 ⟨(E_iff.1 hE).2.1, hm⟩
    have hR : RM g ins p e = true := by
      unfold RM
      rw [hE, ((ho.mem p).1 hpl).2, hm]; rfl
    have hlt := ho.less hpl hel hR
    rw [hab] at hel
    rcases List.mem_append.1 hel with h | h
    · exfalso
      have h1 : l.idxOf e < a.length := by
        rw [hab, List.idxOf_append, if_pos h]
        exact List.idxOf_lt_length_of_mem h
      have hpa : p ∉ a := fun h9 => by
        have := List.nodup_append.1 (hab ▸ ho.nodup)
        exact this.2.2 p h9 p (List.mem_cons_self) rfl
      have h2 : a.length ≤ l.idxOf p := by
        rw [hab, List.idxOf_append, if_neg hpa]
        omega
      omega
    · rcases List.mem_cons.1 h with h | h
      · subst h
        exact absurd hlt (Nat.lt_irrefl _)
      · exact h
theorem rnds_dep {g : List (List Int)} {ins : List Bool} {own : List Int} {rest step : Int} {l : List Nat} (ho : Ordered g.length (RM g ins) (memV ins) l) : rndsL g ins own rest step (g.length + 1) = depL g ins own rest step l := by
  unfold rndsL depL
  refine List.map_congr_left fun p hp => ?_
  exact rnds_deeps (orde_of ho) (fun x hx hm => (ho.mem x).2 ⟨hx, hm⟩) (nodup_len _ _ ho.nodup fun x hx => ((ho.mem x).1 hx).1) p (List.mem_range.1 hp)

set_option maxRecDepth 100000 in
set_option maxHeartbeats 4000000 in
theorem rdepths_any (w : World) (A A2 A3 : Option Addr) (c c2 c3 N M K L : Nat) (g : List (List Int)) (ins : List Bool) (own : List Int) (rest step : Int) (hN : g.length = N) (hM : ins.length = M) (hK : own.length = K) (hL : ((depV g ins own rest step).getD []).length = L) (h : GW w (.slice A N c) g) (hI : LW w (.slice A2 M c2) ins) (hO : IW w (.slice A3 K c3) own) (hs : Fits g 24 30) :
    Calls Try.prog 28 #[.slice A N c, .slice A2 M c2, .slice A3 K c3, .int .i64 rest, .int .i64 step] w (OAns L ((depV g ins own rest step).getD []) (depV g ins own rest step).isSome w) := by
  subst hL
  obtain ⟨L3, hL3⟩ : ∃ L3, (ronL N ins (witG g ins) N).length = L3 := ⟨_, rfl⟩
  have HON := Lib.hid (ron_w w A A2 c c2 N M L3 g ins hN hM hL3 h hI hs)
  have hnone := on_none2 (ins := ins) hN
  rw [hL3] at hnone
  have HG := Lib.hid h
  have HI := Lib.hid hI
  have HO := Lib.hid hO
  have HRD := Lib.hid (fun (W : World) (A4 : Option Addr) (c4 k : Nat) (hb : Below w.heap.size w W) (h4 : IW W (.slice A4 N c4) (rndsL g ins own rest step k)) => by
    have := round_any W A A2 A3 A4 c c2 c3 c4 N M K g ins own (rndsL g ins own rest step k) rest step hN hM hK (by unfold rndsL; rw [List.length_map, List.length_range]; exact hN) (h.on hb) (hI.on hb) (hO.on hb) h4 hs (fun j => rndsL_ok _ _ _ _ _ _ _)
    rw [← hN, rndsL_next, hN] at this
    exact this)
  have HZ := Lib.hid (show rndsL g ins own rest step 0 = (List.range N).map (fun _ => (0 : Int)) by unfold rndsL; rw [hN]; rfl)
  have hmk := make_ints N (by have := hs.1; omega)
  have hN24 : N ≤ 24 := hN ▸ hs.1
  obtain ⟨r, hr⟩ : ∃ r, ordV g ins = r := ⟨_, rfl⟩
  unfold depV
  rw [hr] at hnone ⊢
  generalize coI (ronL N ins (witG g ins) N) = l3 at HON
  cases r with
  | none =>
    have hL0 : (0 : Int) < (L3 : Int) := by
      have : L3 ≠ 0 := fun e => by rw [e] at hnone; simp at hnone
      omega
    clear hnone h hI hO hL3 hr
    go_enter Try.func28, Try.ntmps28
    go_wp2_with fail
    refine HON.out.mono ?_
    rintro e w1 ⟨A1, c1, rfl, -, b1⟩
    have HB1 := Lib.hid b1
    clear b1
    go_wp2
    refine bodyPost_ret (results_tmp2 rfl _ _ _) rfl ?_
    exact ⟨none, 0, rfl, .nil, HB1.out⟩
  | some l =>
    have hL0 : L3 = 0 := by
      rcases Nat.eq_zero_or_pos L3 with h9 | h9
      · exact h9
      · have : decide (L3 = 0) = false := by simp; omega
        rw [this] at hnone; cases hnone
    subst hL0
    have HDEP := Lib.hid (show rndsL g ins own rest step (N + 1) = depL g ins own rest step l by rw [← hN]; exact rnds_dep (ordV_some hr))
    have HDN := Lib.hid (show (depL g ins own rest step l).length = N by unfold depL; rw [List.length_map, List.length_range]; exact hN)
    simp only [Option.map_some, Option.getD_some, Option.isSome_some]
    rw [HDN.out]
    generalize depL g ins own rest step l = DL at HDEP HDN ⊢
    clear hnone h hI hO hL3 hr
    go_enter Try.func28, Try.ntmps28
    go_wp2_with fail
    refine HON.out.mono ?_
    rintro e w1 ⟨A1, c1, rfl, -, b1⟩
    have HB1 := Lib.hid b1
    clear b1 HON
    go_wp2_with fail
    go_loopw [12, 13] (fun ov i wr => ∃ (k : Nat) (A4 : Option Addr) (c4 : Nat), k ≤ N + 1 ∧ i = .int .i64 (k : Int) ∧ ov = .slice A4 N c4 ∧ IW wr (.slice A4 N c4) (rndsL g ins own rest step k) ∧ Below w.heap.size w wr) (fun _ i _ => N + 1 - (intOf i).toNat)
    case atStart =>
      refine ⟨0, _, _, by omega, rfl, rfl, ?_, HB1.out.alloc HB1.out.size _⟩
      rw [HZ.out]
      refine arr_IW ?_ (by omega)
      rw [← arrN_rep]
      exact Blk.new w1 3 _
    case round =>
      obtain ⟨k, A4, c4, hk, rfl, rfl, h4, hB⟩ := hrel
      by_cases hlt : k < N + 1
      · have HLT := Lib.hid hlt
        have HC := Lib.hid (HRD.out wr A4 c4 k hB h4)
        have HBB := Lib.hid hB
        have hkI : (k : Int) ≤ (N : Int) := by omega
        clear hk h4 hB hlt
        go_wp2_with fail
        refine HC.out.mono ?_
        rintro e w2 ⟨A5, c5, rfl, h5, b5⟩
        have H5 := Lib.hid h5
        have HB5 := Lib.hid (to_ HBB.out b5)
        clear h5 b5
        go_wp2_with fail
        go_roundw
        case rel => exact ⟨k + 1, A5, c5, by have := HLT.out; omega, by go_num, rfl, H5.out, HB5.out⟩
        case measure => have := HLT.out; simp [intOf]; omega
      · obtain rfl : k = N + 1 := by omega
        rw [HDEP.out] at h4
        have H4 := Lib.hid h4
        have HBB := Lib.hid hB
        have hkI : ¬ ((N + 1 : Nat) : Int) ≤ (N : Int) := by omega
        clear h4 hB
        go_wp2
        refine bodyPost_ret (results_tmp2 rfl _ _ _) rfl ?_
        exact ⟨_, _, rfl, H4.out, HBB.out⟩
end Go.Proofs.Ytlfgnoicjogfpaa.By
