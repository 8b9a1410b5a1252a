/-
  WALK of layer 12's document: Worst.
-/
import Derived.Test.YtlfgnoicjogfpaaDq
namespace Go.Proofs.Ytlfgnoicjogfpaa.By
open Go.RowKit
open Mem Gm Rf Dp
set_option linter.unusedSimpArgs false

def nxW (d : Nat → Int) (nx : Option Nat) (b : Nat) : Option Nat := match nx with | none => some b | some w => some (if d w < d b then b else w)
theorem nxW_nxW (d : Nat → Int) (nx : Option Nat) (b : Nat) : nxW d (nxW d nx b) b = nxW d nx b := by
  cases nx with
  | none => show some (if d b < d b then b else b) = some b; rw [if_neg (Int.lt_irrefl _)]
  | some w =>
    show some (if d (if d w < d b then b else w) < d b then b else (if d w < d b then b else w)) = some (if d w < d b then b else w)
    by_cases h : d w < d b
    · rw [if_pos h, if_neg (Int.lt_irrefl _)]
    · rw [if_neg h, if_neg h]
/-- The next one, as the document looks for it. -/
def nxB (g : List (List Int)) (d : Nat → Int) (p b : Nat) : Option Nat := bestO d ((List.range b).filter (E g p))
theorem nxB_next (g : List (List Int)) (d : Nat → Int) (p b : Nat) : nxB g d p (b + 1) = if E g p b = true then nxW d (nxB g d p b) b else nxB g d p b := by
  unfold nxB
  rw [List.range_succ, List.filter_append]
  by_cases h : E g p b = true
  · rw [if_pos h, show [b].filter (E g p) = [b] by simp [h], bestO_snoc]; rfl
  · rw [if_neg h, show [b].filter (E g p) = [] by simp [h], List.append_nil]
def nxJ (g : List (List Int)) (d : Nat → Int) (p b j : Nat) : Option Nat := if ((rowOf g p).take j).contains (b : Int) = true then nxW d (nxB g d p b) b else nxB g d p b
theorem nxJ_next {g : List (List Int)} {d : Nat → Int} {p b j : Nat} {c : Int} (h : (rowOf g p)[j]? = some c) : nxJ g d p b (j + 1) = if c = (b : Int) then nxW d (nxJ g d p b j) b else nxJ g d p b j := by
  obtain ⟨h1, h2⟩ := List.getElem?_eq_some_iff.1 h
  have ht : (rowOf g p).take (j + 1) = (rowOf g p).take j ++ [c] := by rw [List.take_succ_eq_append_getElem h1, h2]
  unfold nxJ
  rw [ht]
  by_cases hc : c = (b : Int)
  · subst hc
    rw [if_pos rfl, if_pos (by rw [List.contains_iff_mem]; simp)]
    split
    · rw [nxW_nxW]
    · rfl
  · rw [if_neg hc]
    have : ((rowOf g p).take j ++ [c]).contains (b : Int) = ((rowOf g p).take j).contains (b : Int) := by
      rw [Bool.eq_iff_iff, List.contains_iff_mem, List.contains_iff_mem, List.mem_append, List.mem_singleton]
      exact ⟨fun h => h.resolve_right fun e => hc e.symm, .inl⟩
    rw [this]
theorem nxJ_all {g : List (List Int)} {d : Nat → Int} {p b : Nat} (hp : p < g.length) (hb : b < g.length) : nxJ g d p b (rowOf g p).length = nxB g d p (b + 1) := by
  rw [nxB_next]
  unfold nxJ
  rw [List.take_length]
  have : (rowOf g p).contains (b : Int) = E g p b := by
    rw [Bool.eq_iff_iff, List.contains_iff_mem, E_iff]
    exact ⟨fun h => ⟨hp, hb, h⟩, fun h => h.2.2⟩
  rw [this]
theorem nxB_lt {g : List (List Int)} {d : Nat → Int} {p b w : Nat} (h : nxB g d p b = some w) : w < b := List.mem_range.1 (List.mem_filter.1 (bestO_mem h).1).1
theorem nxJ_lt {g : List (List Int)} {d : Nat → Int} {p b j w : Nat} (h : nxJ g d p b j = some w) : w ≤ b := by
  unfold nxJ at h
  split at h
  · cases h9 : nxB g d p b with
    | none => rw [h9] at h; injection h with h; omega
    | some x =>
      rw [h9] at h
      have h8 := nxB_lt h9
      injection h with h
      split at h <;> omega
  · have := nxB_lt h; omega
def nxZ : Option Nat → Int
  | none => -1
  | some w => w

set_option maxRecDepth 100000 in
set_option maxHeartbeats 8000000 in
theorem rworst_any (w : World) (A A2 A3 : Option Addr) (c c2 c3 N M K L : Nat) (g : List (List Int)) (ins : List Bool) (own : List Int) (rest step at_ : Int) (hN : g.length = N) (hM : ins.length = M) (hK : own.length = K) (hL : (worI g ins own rest step at_).length = L) (h : GW w (.slice A N c) g) (hI : LW w (.slice A2 M c2) ins) (hO : IW w (.slice A3 K c3) own) (hs : Fits g 24 30) :
    Calls Try.prog 30 #[.slice A N c, .slice A2 M c2, .slice A3 K c3, .int .i64 rest, .int .i64 step, .int .i64 at_] w (IAns L (worI g ins own rest step at_) w) := by
  obtain ⟨i0, hi, hz0, hz1, hz2⟩ := info_parts infoI
  subst hL
  have HN := Lib.hid hN
  have HM := Lib.hid hM
  have HG := Lib.hid h
  have HI := Lib.hid hI
  have HS := Lib.hid hs
  have hN24 : N ≤ 24 := hN ▸ hs.1
  have HDP := Lib.hid (rdepths_any w A A2 A3 c c2 c3 N M K _ g ins own rest step hN hM hK rfl h hI hO hs)
  unfold worI depV at *
  obtain ⟨r, hr⟩ : ∃ r, ordV g ins = r := ⟨_, rfl⟩
  rw [hr] at HDP ⊢
  rw [hN]
  have HR := Lib.hid hr
  clear hM hK h hI hO hs hr hN
  cases r with
  | none =>
    go_enter Try.func30, Try.ntmps30
    go_wp2_with fail
    refine HDP.out.mono ?_
    rintro e w1 ⟨A5, c5, rfl, -, b1⟩
    have HB1 := Lib.hid b1
    clear b1 HDP
    dsimp only [Option.map_none, Option.getD_none, Option.isSome_none, List.length_nil]
    go_wp2
    go_ret
    exact ⟨none, 0, rfl, .nil, HB1.out⟩
  | some l =>
    have HORD := Lib.hid (ordV_some HR.out)
    have hdl : (depL g ins own rest step l).length = N := by unfold depL; rw [List.length_map, List.length_range]; exact HN.out
    have HDL := Lib.hid hdl
    simp only [Option.map_some, Option.getD_some, Option.isSome_some] at HDP
    rw [hdl] at HDP
    dsimp only
    generalize depL g ins own rest step l = D at HDP HDL ⊢
    clear hdl
    by_cases hin : 0 ≤ at_ ∧ at_ < (N : Int)
    · obtain ⟨a, rfl⟩ : ∃ a : Nat, at_ = (a : Int) := ⟨at_.toNat, by omega⟩
      have haN : a < N := by omega
      rw [if_pos hin, Int.toNat_natCast]
      obtain ⟨ll, hll⟩ : ∃ ll, l.length = ll := ⟨_, rfl⟩
      have HLL := Lib.hid hll
      have hll24 : ll ≤ 24 := by rw [← hll]; exact Nat.le_trans (nodup_len _ _ HORD.out.nodup fun p hp => ((HORD.out.mem p).1 hp).1) (by rw [HN.out]; exact hN24)
      rw [hll]
      clear hll
      have ha1 : ¬ (a : Int) < 0 := by omega
      have ha2 : ¬ (N : Int) ≤ (a : Int) := by omega
      have ha1d : decide ((a : Int) < 0) = false := decide_eq_false ha1
      have ha2d : decide ((N : Int) ≤ (a : Int)) = false := decide_eq_false ha2
      have ha3d : decide (N ≤ a) = false := decide_eq_false (by omega)
      clear hin
      go_enter Try.func30, Try.ntmps30
      go_wp2_with fail
      refine HDP.out.mono ?_
      rintro e w1 ⟨A5, c5, rfl, h1, b1⟩
      have HD1 := Lib.hid h1
      have HB1 := Lib.hid b1
      have HG1 := Lib.hid (HG.out.on b1)
      have HI1 := Lib.hid (HI.out.on b1)
      clear h1 b1 HDP
      go_wp2_with fail
      go_loopg [5, 15] ll (fun f av wv wr => ∃ (p : Nat) (done : List Nat), p < N ∧ av = .int .i64 (p : Int) ∧ rk l p ≤ f ∧ (a :: worL g ins (fun p => el D p) ll a) = done ++ worL g ins (fun p => el D p) f p ∧ done.length + f ≤ 25 ∧ wr.ownsRow w1.heap.size 3 1 wv (coI done).length (ints (coI done)) ∧ Below w1.heap.size w1 wr)
      case atStart => exact ⟨a, [a], haN, rfl, by rw [← HLL.out]; exact rk_le l a, rfl, by simp; omega, own_one (Nat.le_refl _), alloc_ w1 _⟩
      case round =>
        obtain ⟨p, done, hpN, rfl, hrk, hall, hfew, hown, hB⟩ := hrel
        have HMEM := Lib.hid (rmember_any wr w1.heap.size N M c c2 A A2 ins (p : Int) HM.out (SlV.below HI1.out hB))
        rw [rmemV_nat hpN] at HMEM
        obtain ⟨b, hb⟩ : ∃ b, memV ins p = b := ⟨_, rfl⟩
        rw [hb] at HMEM
        have hpI : (p : Int) < (N : Int) := by omega
        have hp0 : (0 : Int) ≤ (p : Int) := by omega
        cases b with
        | false =>
          have hstop : worL g ins (fun p => el D p) gk p = [] := by
            cases gk with
            | zero => rfl
            | succ f => show (if memV ins p = true then _ else _ : List Nat) = []; rw [if_neg (by rw [hb]; simp)]
          clear hb hrk hfew
          have hdone : (a :: worL g ins (fun p => el D p) ll a) = done := by rw [hall, hstop, List.append_nil]
          have HSL := Lib.hid (SlV.of_own hown)
          obtain ⟨OA, OC, hov⟩ := (SlV.of_own hown).form
          have hnl : (ints (coI done)).length = (coI done).length := by simp [ints]
          rw [hnl] at hov
          subst hov
          have HBB := Lib.hid (to_ HB1.out hB)
          obtain ⟨cl, hcl⟩ : ∃ cl, (coI done).length = cl := ⟨_, rfl⟩
          have HCL := Lib.hid hcl
          rw [hcl] at HSL ⊢
          have HDO := Lib.hid hdone
          clear hown hB hall hstop hnl hcl hdone
          go_wp2_with (go_at_call 23; refine HMEM.out.mono ?_; rintro e w9 ⟨rfl, rfl⟩)
          go_ret
          refine ⟨OA, OC, ?_, ?_, HBB.out⟩
          · rw [HDO.out, HCL.out]; rfl
          · show IW _ (.slice OA (coI (a :: worL g ins (fun p => el D p) ll a)).length OC) (coI (a :: worL g ins (fun p => el D p) ll a))
            rw [HDO.out, HCL.out]; exact HSL.out
        | true =>
          have hpl : p ∈ l := (HORD.out.mem p).2 ⟨by rw [HN.out]; exact hpN, hb⟩
          have h1 := rk_pos hpl
          obtain ⟨f, rfl⟩ : ∃ f, gk = f + 1 := ⟨gk - 1, by omega⟩
          have hun : worL g ins (fun p => el D p) (f + 1) p = match bestO (fun p => el D p) (adjC g p) with | none => [] | some e => e :: worL g ins (fun p => el D p) f e := by
            show (if memV ins p = true then _ else _ : List Nat) = _
            rw [if_pos hb]; rfl
          have hgr : Gr wr w1.heap.size (.slice A g.length c) g := by rw [HN.out]; exact HG1.out.below hB
          obtain ⟨ad, c9, hAe, _, _, hbad, hrows⟩ := hgr.rows (by rw [HN.out]; omega)
          injection hAe with hA3 _ hC9
          obtain ⟨A', c', hrw, hrsl⟩ := hrows p (by rw [HN.out]; exact hpN)
          have hm30 : (rowOf g p).length ≤ 30 := HS.out.2 p (by rw [HN.out]; exact hpN)
          have HRN := Lib.hid (fun b j c (h : (rowOf g p)[j]? = some c) => nxJ_next (g := g) (d := fun p => el D p) (p := p) (b := b) h)
          have HRA := Lib.hid (fun b (hb : b < N) => nxJ_all (g := g) (d := fun p => el D p) (p := p) (b := b) (by rw [HN.out]; exact hpN) (by rw [HN.out]; exact hb))
          have HE := Lib.hid (fun j (hj : j < (rowOf g p).length) => show ∃ ad', A' = some ad' ∧ wr.cell? (ad'.add j) = some (.int .i64 (el (rowOf g p) j)) ∧ (rowOf g p)[j]? = some (el (rowOf g p) j) from by
            rcases hrsl.inv with ⟨_, h4, _⟩ | ⟨ad', e, _, _, _, hr⟩
            · omega
            · exact ⟨ad', e, (hr j _ (ints_at hj)).2, by rw [List.getElem?_eq_getElem hj, el_at hj]⟩)
          have HDC := Lib.hid (fun j (hj : j < N) => (HD1.out.on hB).at_ HDL.out hj)
          subst hA3 hC9
          obtain ⟨m, hm⟩ : ∃ m, (rowOf g p).length = m := ⟨_, rfl⟩
          rw [hm] at hrw hm30 HE HRA
          have HUN := Lib.hid hun
          have HALL := Lib.hid hall
          have HFEW := Lib.hid hfew
          have HRK := Lib.hid hrk
          have HOWN := Lib.hid hown
          have HBW := Lib.hid hB
          have HPL := Lib.hid hpl
          obtain ⟨wo, hwo⟩ : ∃ wo, wo = wr := ⟨_, rfl⟩
          subst hwo
          clear hb h1 hun hall hfew hrk hown hB hpl hgr hrows hrsl hbad hm
          go_wp2_with (go_at_call 23; refine HMEM.out.mono ?_; rintro e w9 ⟨rfl, rfl⟩)
          go_loopw [16, 17] (fun nx i wz => ∃ b q : Nat, b ≤ N ∧ i = .int .i64 (b : Int) ∧ nx = .int .i64 (nxZ (nxB g (fun p => el D p) p b)) ∧ wz = wo.drewN q) (fun _ i _ => N - (intOf i).toNat)
          case atStart => exact ⟨0, 0, Nat.zero_le _, rfl, rfl, rfl⟩
          case round =>
            obtain ⟨b, q0, hbN, rfl, rfl, rfl⟩ := hrel
            by_cases hbl : b < N
            · have HBL := Lib.hid hbl
              have hbI : (b : Int) < (N : Int) := by omega
              have hb0 : (0 : Int) ≤ (b : Int) := by omega
              go_wp2_with fail
              go_loopw [16, 18] (fun nx i wz => ∃ j q : Nat, j ≤ m ∧ i = .int .i64 (j : Int) ∧ nx = .int .i64 (nxZ (nxJ g (fun p => el D p) p b j)) ∧ wz = wo.drewN q) (fun _ i _ => m - (intOf i).toNat)
              case atStart => exact ⟨0, q0, Nat.zero_le _, rfl, rfl, rfl⟩
              case round =>
                obtain ⟨j, q, hj, rfl, rfl, rfl⟩ := hrel
                by_cases hjm : j < m
                · have HJM := Lib.hid hjm
                  obtain ⟨ad', rfl, hcj, hgj⟩ := HE.out j hjm
                  have hnx2 := HRN.out b j _ hgj
                  obtain ⟨c0, hc0⟩ : ∃ c0, el (rowOf g p) j = c0 := ⟨_, rfl⟩
                  rw [hc0] at hcj hnx2
                  have hjI : (j : Int) < (m : Int) := by omega
                  have hj0 : (0 : Int) ≤ (j : Int) := by omega
                  obtain ⟨ad4, rfl, hdb⟩ := HDC.out b HBL.out
                  obtain ⟨dvb, hdvb⟩ : ∃ dvb, el D b = dvb := ⟨_, rfl⟩
                  rw [hdvb] at hdb
                  clear hgj hc0 hj
                  by_cases hcb : c0 = (b : Int)
                  · subst hcb
                    rw [if_pos rfl] at hnx2
                    cases hno : nxJ g (fun p => el D p) p b j with
                    | none =>
                      rw [hno] at hnx2
                      have HNX := Lib.hid (show nxZ (nxJ g (fun p => el D p) p b (j + 1)) = (b : Int) by rw [hnx2]; rfl)
                      rw [show nxZ none = -1 from rfl]
                      clear hnx2 hno hdvb
                      go_wp2_with fail
                      go_quiet (fail)
                      go_wp2_with fail
                      go_roundw
                      case rel => exact ⟨j + 1, q + nq, by have := HJM.out; omega, by go_num, by rw [HNX.out], by first | rfl | exact World.drewN_drewN ..⟩
                      case measure => have := HJM.out; simp [intOf]; omega
                    | some x =>
                      rw [hno] at hnx2
                      have hxb := nxJ_lt hno
                      have hxN : x < N := by have := HBL.out; omega
                      obtain ⟨ad5, e5, hdx⟩ := HDC.out x hxN
                      injection e5 with e5
                      subst e5
                      obtain ⟨dvx, hdvx⟩ : ∃ dvx, el D x = dvx := ⟨_, rfl⟩
                      rw [hdvx] at hdx
                      have hxI : (x : Int) < (N : Int) := by omega
                      have hx0 : (0 : Int) ≤ (x : Int) := by omega
                      have hxn : ¬ (x : Int) < 0 := by omega
                      have hnx3 : nxJ g (fun p => el D p) p b (j + 1) = some (if dvx < dvb then b else x) := by rw [hnx2, ← hdvx, ← hdvb]; rfl
                      rw [show nxZ (some x) = (x : Int) from rfl]
                      by_cases hgt : dvx < dvb
                      · have HNX := Lib.hid (show nxZ (nxJ g (fun p => el D p) p b (j + 1)) = (b : Int) by rw [hnx3, if_pos hgt]; rfl)
                        clear hnx2 hnx3 hno hdvb hdvx hxb hxN
                        go_wp2_with fail
                        go_quiet (fail)
                        go_wp2_with fail
                        go_roundw
                        case rel => exact ⟨j + 1, q + nq, by have := HJM.out; omega, by go_num, by rw [HNX.out], by first | rfl | exact World.drewN_drewN ..⟩
                        case measure => have := HJM.out; simp [intOf]; omega
                      · have HNX := Lib.hid (show nxZ (nxJ g (fun p => el D p) p b (j + 1)) = (x : Int) by rw [hnx3, if_neg hgt]; rfl)
                        clear hnx2 hnx3 hno hdvb hdvx hxb hxN
                        go_wp2_with fail
                        go_quiet (fail)
                        go_wp2_with fail
                        go_roundw
                        case rel => exact ⟨j + 1, q + nq, by have := HJM.out; omega, by go_num, by rw [HNX.out], by first | rfl | exact World.drewN_drewN ..⟩
                        case measure => have := HJM.out; simp [intOf]; omega
                  · rw [if_neg hcb] at hnx2
                    have hcb2 : (c0 == (b : Int)) = false := by rw [beq_eq_false_iff_ne]; exact hcb
                    have HNX := Lib.hid (show nxZ (nxJ g (fun p => el D p) p b (j + 1)) = nxZ (nxJ g (fun p => el D p) p b j) by rw [hnx2])
                    generalize nxZ (nxJ g (fun p => el D p) p b j) = nI at HNX ⊢
                    clear hnx2 hdvb
                    go_wp2_with fail
                    go_quiet (fail)
                    go_wp2_with fail
                    go_roundw
                    case rel => exact ⟨j + 1, q + nq, by have := HJM.out; omega, by go_num, by rw [HNX.out], by first | rfl | exact World.drewN_drewN ..⟩
                    case measure => have := HJM.out; simp [intOf]; omega
                · obtain rfl : j = m := by omega
                  rw [HRA.out b HBL.out]
                  have hmI : ¬ (j : Int) < (j : Int) := by omega
                  clear hj hjm
                  go_wp2_with fail
                  go_roundw
                  case rel => exact ⟨b + 1, q, by have := HBL.out; omega, by go_num, rfl, rfl⟩
                  case measure => have := HBL.out; simp [intOf]; omega
            · obtain rfl : b = N := by omega
              have hnb : nxB g (fun p => el D p) p b = bestO (fun p => el D p) (adjC g p) := by unfold nxB adjC; rw [HN.out]
              rw [hnb]
              clear hbl hbN
              cases hbo : bestO (fun p => el D p) (adjC g p) with
              | none =>
                have hstop : worL g ins (fun p => el D p) (f + 1) p = [] := by rw [HUN.out, hbo]
                have hall := HALL.out
                have hown := own_keep (w' := wo.drewN q0) HOWN.out fun _ _ _ _ => rfl
                have hB := below_drewN HBW.out q0
                rw [show nxZ none = -1 from rfl]
                clear hbo hnb
                have hdone : (a :: worL g ins (fun p => el D p) ll a) = done := by rw [hall, hstop, List.append_nil]
                have HSL := Lib.hid (SlV.of_own hown)
                obtain ⟨OA, OC, hov⟩ := (SlV.of_own hown).form
                have hnl : (ints (coI done)).length = (coI done).length := by simp [ints]
                rw [hnl] at hov
                subst hov
                have HBB := Lib.hid (to_ HB1.out hB)
                obtain ⟨cl, hcl⟩ : ∃ cl, (coI done).length = cl := ⟨_, rfl⟩
                have HCL := Lib.hid hcl
                rw [hcl] at HSL ⊢
                have HDO := Lib.hid hdone
                clear hown hB hall hstop hnl hcl hdone
                go_wp2_with fail
                go_ret
                refine ⟨OA, OC, ?_, ?_, HBB.out⟩
                · rw [HDO.out, HCL.out]; rfl
                · show IW _ (.slice OA (coI (a :: worL g ins (fun p => el D p) ll a)).length OC) (coI (a :: worL g ins (fun p => el D p) ll a))
                  rw [HDO.out, HCL.out]; exact HSL.out
              | some e =>
                have hmem := (bestO_mem hbo).1
                have hE := adjC_mem.1 hmem
                have heN : e < b := by have := (E_iff.1 hE).2.1; rw [HN.out] at this; exact this
                have hrl := rk_less HORD.out HPL.out hE
                have HALL2 := Lib.hid (show (a :: worL g ins (fun p => el D p) ll a) = (done ++ [e]) ++ worL g ins (fun p => el D p) f e from by rw [HALL.out, HUN.out, hbo, List.append_assoc]; rfl)
                have HRK2 := Lib.hid (show rk l e ≤ f by have := HRK.out; omega)
                have HFEW2 := Lib.hid (show (done ++ [e]).length + f ≤ 25 by have := HFEW.out; simp; omega)
                have HEN := Lib.hid heN
                have HLO := Lib.hid HOWN.out.lt
                have HDL2 := Lib.hid (show (coI done).length ≤ 25 by have := HFEW.out; simp only [coI, List.length_map]; omega)
                rw [show nxZ (some e) = (e : Int) from rfl]
                have he0 : ¬ (e : Int) < 0 := by omega
                clear hbo hnb hmem hE heN hrl
                go_wp2_with (at_builtin; refine wpList_append_where _ rfl (.tmp 89) (.tmp 91) 26 rfl w1.heap.size 3 i0 (.int .i64 0) 8 Try.underlying26 hi hz0 hz1 hz2 rfl u15 (coI done).length (ints (coI done)) rfl (own_keep (w' := (wo.drewN q0).alloc (.cells #[.int .i64 (e : Int)] 3)) HOWN.out fun q9 _ hq _ => Below.heap_alloc (wo.drewN q0) _ _ hq) ⟨wo.heap.size, 0, none⟩ 1 (.int .i64 (e : Int)) rfl (((Blk.new (wo.drewN q0) 3 #[.int .i64 (e : Int)]).cell 0).trans rfl) rfl (by have := HDL2.out; unfold maxLen; omega) (by have := HDL2.out; omega) (by rw [World.size_alloc]; exact Nat.le_trans HBW.out.size (Nat.le_succ _)) ?_; intro v' w' h2 h3 h4; clear h4; have H2 := Lib.hid h2; have H3 := Lib.hid h3; clear h2 h3)
                have h2 : w'.ownsRow w1.heap.size 3 1 v' (coI (done ++ [e])).length (ints (coI (done ++ [e]))) := by
                  have e1 : coI (done ++ [e]) = coI done ++ [(e : Int)] := by simp [coI]
                  rw [e1, List.length_append, List.length_singleton]
                  have := H2.out
                  simpa [ints] using this
                have h3 : Below w1.heap.size w1 w' := ((below_drewN HBW.out q0).alloc HBW.out.size _).grown H3.out (by rw [World.size_alloc]; exact Nat.le_trans HBW.out.size (Nat.le_succ _)) fun r e => (HLO.out r e).1
                go_roundg f
                case measure => omega
                case rel => exact ⟨e, done ++ [e], HEN.out, rfl, HRK2.out, HALL2.out, HFEW2.out, h2, h3⟩
    · rw [if_neg hin]
      go_enter Try.func30, Try.ntmps30
      go_wp2_with fail
      refine HDP.out.mono ?_
      rintro e w1 ⟨A5, c5, rfl, -, b1⟩
      have HB1 := Lib.hid b1
      clear b1 HDP
      by_cases h0 : at_ < 0
      · clear hin
        go_wp2
        go_ret
        exact ⟨none, 0, rfl, .nil, HB1.out⟩
      · have h1 : (N : Int) ≤ at_ := by omega
        clear hin
        go_wp2
        go_ret
        exact ⟨none, 0, rfl, .nil, HB1.out⟩
end Go.Proofs.Ytlfgnoicjogfpaa.By
