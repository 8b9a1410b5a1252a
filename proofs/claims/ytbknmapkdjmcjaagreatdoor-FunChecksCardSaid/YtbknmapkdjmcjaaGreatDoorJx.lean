/-
  WALK of layer 16: the document's own Check. THE LAW FunChecks.
-/
import Derived.Test.YtbknmapkdjmcjaaGreatDoorJp
import Derived.Test.YtbknmapkdjmcjaaGreatDoorJq
import Derived.Test.YtbknmapkdjmcjaaGreatDoorJw
namespace Go.Proofs.YtbknmapkdjmcjaaGreatDoor.By
open Go.RowKit
open Mem Gm Rf
set_option linter.unusedSimpArgs false
set_option linter.unusedVariables false

def okF (m z : Int) (l : List Rl) : Bool := risB m z (l.map fun y => y.1) && !(l.any rfB9)
theorem okF_at {m z : Int} {l : List Rl} {k : Nat} {x : Rl} (h : l[k]? = some x) : okF m z (l.drop k) = ((decide (z < x.1) && decide (x.1 < m)) && (!rfB9 x && okF m x.1 (l.drop (k + 1)))) := by
  have hk := (List.getElem?_eq_some_iff.1 h).1
  have hx := (List.getElem?_eq_some_iff.1 h).2
  unfold okF
  rw [List.drop_eq_getElem_cons hk, hx, List.map_cons, List.any_cons, risB]
  cases decide (z < x.1) <;> cases decide (x.1 < m) <;> cases rfB9 x <;> simp
def paV (x : Fn) : Int := if frB x.pd 4096 = true then 0 else 9
theorem chF_doc (x : Fn) : chF x = firN [slV x, paV x, cdV x, rgV x, lnV9 x, rfV9 x] := by
  have h : frV x = if slV x ≠ 0 then slV x else paV x := by
    unfold frV slV paV
    have h0 : 0 ≤ Si.parV x.k := by unfold Si.parV; split <;> omega
    obtain ⟨p, hp⟩ : ∃ p : Nat, Si.parV x.k = (p : Int) := ⟨(Si.parV x.k).toNat, by omega⟩
    have hk : kdL (Si.parV x.k) 0 x.ks = (x.ks.any nkB || (x.ks.take (Si.parV x.k).toNat).any nnB) := by
      rw [hp, kdL_any, Int.toNat_natCast]; rfl
    rw [hk]
    split
    · simp
    · split
      · simp
      · split
        · simp
        · split
          · simp
          · simp
  unfold chF
  simp only [firN, h]
  by_cases h1 : slV x = 0
  · simp [h1]
  · simp [h1]

set_option maxRecDepth 100000 in
set_option maxHeartbeats 8000000 in
theorem rchkF_any (w : World) (AK AL AC AR : Option Addr) (nK cK nL cL nC cC nR cR : Nat) (x : Fn) (hF : FnW w AK nK cK AL nL cL AC nC cC AR nR cR x) (hnn : nK ≤ 1000000 ∧ nL ≤ 1000000 ∧ nC ≤ 1000000 ∧ nR ≤ 1000000) (hB : (∀ z ∈ x.ks, -9223372036854775808 ≤ z ∧ z ≤ 9223372036854775807) ∧ ∀ k, k < x.cs.length → -9223372036854775808 ≤ (inAt x.cs k).1 ∧ (inAt x.cs k).1 ≤ 9223372036854775807) :
    Calls Tryz.prog 17 #[.agg #[.int .i64 x.k, .slice AK nK cK, .int .i64 x.pd, .bool x.ns, .int .i64 x.f, .int .i64 x.t, .slice AL nL cL, .slice AC nC cC, .slice AR nR cR]] w (CAns w (chF x)) := by
  rw [chF_doc]
  obtain ⟨k0, ks, pd, ns, f0, t0, ls, cs, rs⟩ := x
  have hF0 := hF
  obtain ⟨hk, hkl, hl, hc, hr⟩ := hF
  dsimp only at hk hkl hl hc hr hB ⊢
  have hll : ls.length = nL := hl.1
  have hcl : cs.length = nC := hc.1
  have hrl : rs.length = nR := hr.1
  obtain ⟨W1, hW1⟩ : ∃ W1, w.alloc (.cells #[.int .i64 k0, .slice AK nK cK, .int .i64 pd, .bool ns, .int .i64 f0, .int .i64 t0, .slice AL nL cL, .slice AC nC cC, .slice AR nR cR] 27) = W1 := ⟨_, rfl⟩
  have hsz1 : w.heap.size < W1.heap.size := by rw [← hW1]; simp
  have HB0 := Lib.hid (show Below w.heap.size w W1 by rw [← hW1]; exact alloc_ _ _)
  have HX := Lib.hid (show ∀ W, Below W1.heap.size W1 W → Blk W w.heap.size 27 #[.int .i64 k0, .slice AK nK cK, .int .i64 pd, .bool ns, .int .i64 f0, .int .i64 t0, .slice AL nL cL, .slice AC nC cC, .slice AR nR cR] from fun W hb => (hb.block _ hsz1).trans (by rw [← hW1]; exact Blk.new w _ _))
  obtain ⟨c0, c1, c2, c3, c4, c5, c6, c7, c8⟩ := blk9 (HX.out W1 (Below.refl _ _))
  have HSL := Lib.hid (rslots_any W1 AK AL AC AR nK cK nL cL nC cC nR cR ⟨k0, ks, pd, ns, f0, t0, ls, cs, rs⟩ (hF0.on HB0.out) hnn hB.1)
  have HCO := Lib.hid (fun W (hb : Below W1.heap.size W1 W) => rcode_any W AK AL AC AR nK cK nL cL nC cC nR cR ⟨k0, ks, pd, ns, f0, t0, ls, cs, rs⟩ (hF0.on (to_ HB0.out hb)) hnn hB.2)
  have HLI := Lib.hid (fun W (hb : Below W1.heap.size W1 W) => rlines_any W AK AL AC AR nK cK nL cL nC cC nR cR ⟨k0, ks, pd, ns, f0, t0, ls, cs, rs⟩ (hF0.on (to_ HB0.out hb)) hnn)
  have HRC := Lib.hid (fun W (hb : Below W1.heap.size W1 W) i (hi : i < nR) => (hr.on (to_ HB0.out hb)).at_ hi)
  have HS := Lib.hid (show ∀ k, k < nR → rs[k]? = some (rlAt rs k) from fun k hk => rlAt_some (by omega))
  have HLN := Lib.hid hrl
  have hb4 := hnn.2.2.2
  have hrg : rgV ⟨k0, ks, pd, ns, f0, t0, ls, cs, rs⟩ = if s4B f0 t0 nC = true then 0 else 9 := by unfold rgV; dsimp only; rw [hcl]
  have hpa : paV ⟨k0, ks, pd, ns, f0, t0, ls, cs, rs⟩ = if frB pd 4096 = true then 0 else 9 := rfl
  have hrf : rfV9 ⟨k0, ks, pd, ns, f0, t0, ls, cs, rs⟩ = if okF (nC : Int) (-1) rs = true then 0 else 11 := by unfold rfV9 okF; dsimp only; rw [hcl]
  rw [hrg, hpa, hrf]
  generalize slV ⟨k0, ks, pd, ns, f0, t0, ls, cs, rs⟩ = rS at HSL ⊢
  generalize cdV ⟨k0, ks, pd, ns, f0, t0, ls, cs, rs⟩ = rC at HCO ⊢
  generalize lnV9 ⟨k0, ks, pd, ns, f0, t0, ls, cs, rs⟩ = rL at HLI ⊢
  dsimp only at HSL HCO HLI
  clear hk hkl hl hc hr hll hcl hrl hsz1 hB hF0 hrg hpa hrf
  by_cases hs : rS = 0
  · subst hs
    rw [show firN [0, (if frB pd 4096 = true then (0 : Int) else 9), rC, (if s4B f0 t0 nC = true then (0 : Int) else 9), rL, (if okF (nC : Int) (-1) rs = true then (0 : Int) else 11)] = firN [(if frB pd 4096 = true then (0 : Int) else 9), rC, (if s4B f0 t0 nC = true then (0 : Int) else 9), rL, (if okF (nC : Int) (-1) rs = true then (0 : Int) else 11)] from by rw [firN, if_neg (by simp)]]
    by_cases p1 : pd < 0
    · rw [show frB pd 4096 = false from by unfold frB; rw [decide_eq_false (show ¬ 0 ≤ pd by omega)]; rfl, if_neg Bool.false_ne_true, firN, if_pos (by decide)]
      go_enter Tryz.func17, Tryz.ntmps17
      go_wp2_with (first
        | (go_at_call 63; refine HSL.out.mono ?_; rintro e w7 ⟨rfl, b⟩; have HB7 := Lib.hid b; clear b c0 c1 c2 c3 c4 c5 c6 c7 c8; obtain ⟨c0, c1, c2, c3, c4, c5, c6, c7, c8⟩ := blk9 (HX.out w7 HB7.out)))
      go_ret
      exact ⟨rfl, to_ HB0.out HB7.out⟩
    · by_cases p2 : (4096 : Int) < pd
      · rw [show frB pd 4096 = false from by unfold frB; rw [decide_eq_false (show ¬ pd ≤ 4096 by omega)]; simp, if_neg Bool.false_ne_true, firN, if_pos (by decide)]
        go_enter Tryz.func17, Tryz.ntmps17
        go_wp2_with (first
          | (go_at_call 63; refine HSL.out.mono ?_; rintro e w7 ⟨rfl, b⟩; have HB7 := Lib.hid b; clear b c0 c1 c2 c3 c4 c5 c6 c7 c8; obtain ⟨c0, c1, c2, c3, c4, c5, c6, c7, c8⟩ := blk9 (HX.out w7 HB7.out)))
        go_ret
        exact ⟨rfl, to_ HB0.out HB7.out⟩
      · rw [show frB pd 4096 = true from by unfold frB; rw [decide_eq_true (show 0 ≤ pd by omega), decide_eq_true (show pd ≤ 4096 by omega)]; rfl, if_pos rfl, firN, if_neg (by simp), firN]
        by_cases hc : rC = 0
        · subst hc
          rw [if_neg (by simp)]
          by_cases q1 : f0 < 0
          · rw [show s4B f0 t0 nC = false from by unfold s4B; rw [decide_eq_false (show ¬ 0 ≤ f0 by omega)]; simp, if_neg Bool.false_ne_true, firN, if_pos (by decide)]
            go_enter Tryz.func17, Tryz.ntmps17
            go_wp2_with (first
              | (go_at_call 63; refine HSL.out.mono ?_; rintro e w7 ⟨rfl, b⟩; have HB7 := Lib.hid b; clear b c0 c1 c2 c3 c4 c5 c6 c7 c8; obtain ⟨c0, c1, c2, c3, c4, c5, c6, c7, c8⟩ := blk9 (HX.out w7 HB7.out))
              | (go_at_call 64; refine (HCO.out _ HB7.out).mono ?_; rintro e w8 ⟨rfl, b⟩; have HB8 := Lib.hid (to_ HB7.out b); clear b c0 c1 c2 c3 c4 c5 c6 c7 c8; obtain ⟨c0, c1, c2, c3, c4, c5, c6, c7, c8⟩ := blk9 (HX.out w8 HB8.out)))
            go_ret
            exact ⟨rfl, to_ HB0.out HB8.out⟩
          · by_cases q2 : t0 < f0
            · rw [show s4B f0 t0 nC = false from by unfold s4B; rw [decide_eq_false (show ¬ f0 ≤ t0 by omega)]; simp, if_neg Bool.false_ne_true, firN, if_pos (by decide)]
              go_enter Tryz.func17, Tryz.ntmps17
              go_wp2_with (first
                | (go_at_call 63; refine HSL.out.mono ?_; rintro e w7 ⟨rfl, b⟩; have HB7 := Lib.hid b; clear b c0 c1 c2 c3 c4 c5 c6 c7 c8; obtain ⟨c0, c1, c2, c3, c4, c5, c6, c7, c8⟩ := blk9 (HX.out w7 HB7.out))
                | (go_at_call 64; refine (HCO.out _ HB7.out).mono ?_; rintro e w8 ⟨rfl, b⟩; have HB8 := Lib.hid (to_ HB7.out b); clear b c0 c1 c2 c3 c4 c5 c6 c7 c8; obtain ⟨c0, c1, c2, c3, c4, c5, c6, c7, c8⟩ := blk9 (HX.out w8 HB8.out)))
              go_ret
              exact ⟨rfl, to_ HB0.out HB8.out⟩
            · by_cases q3 : (nC : Int) < t0
              · rw [show s4B f0 t0 nC = false from by unfold s4B; rw [decide_eq_false (show ¬ t0 ≤ (nC : Int) by omega)]; simp, if_neg Bool.false_ne_true, firN, if_pos (by decide)]
                go_enter Tryz.func17, Tryz.ntmps17
                go_wp2_with (first
                  | (go_at_call 63; refine HSL.out.mono ?_; rintro e w7 ⟨rfl, b⟩; have HB7 := Lib.hid b; clear b c0 c1 c2 c3 c4 c5 c6 c7 c8; obtain ⟨c0, c1, c2, c3, c4, c5, c6, c7, c8⟩ := blk9 (HX.out w7 HB7.out))
                  | (go_at_call 64; refine (HCO.out _ HB7.out).mono ?_; rintro e w8 ⟨rfl, b⟩; have HB8 := Lib.hid (to_ HB7.out b); clear b c0 c1 c2 c3 c4 c5 c6 c7 c8; obtain ⟨c0, c1, c2, c3, c4, c5, c6, c7, c8⟩ := blk9 (HX.out w8 HB8.out)))
                go_ret
                exact ⟨rfl, to_ HB0.out HB8.out⟩
              · rw [show s4B f0 t0 nC = true from by unfold s4B; rw [decide_eq_true (show 0 ≤ f0 by omega), decide_eq_true (show f0 ≤ t0 by omega), decide_eq_true (show t0 ≤ (nC : Int) by omega)]; rfl, if_pos rfl, firN, if_neg (by simp), firN]
                by_cases hl : rL = 0
                · subst hl
                  rw [if_neg (by simp)]
                  obtain ⟨rr, hrr⟩ : ∃ r : Int, firN [(if okF (nC : Int) (-1) rs = true then (0 : Int) else 11)] = r := ⟨_, rfl⟩
                  rw [hrr]
                  have HRR := Lib.hid (show (okF (nC : Int) (-1) rs = true → rr = 0) ∧ (okF (nC : Int) (-1) rs = false → rr = 11) from ⟨fun h => by rw [← hrr, h]; rfl, fun h => by rw [← hrr, h]; rfl⟩)
                  clear hrr
                  go_enter Tryz.func17, Tryz.ntmps17
                  go_wp2_with (first
                    | (go_at_call 63; refine HSL.out.mono ?_; rintro e w7 ⟨rfl, b⟩; have HB7 := Lib.hid b; clear b c0 c1 c2 c3 c4 c5 c6 c7 c8; obtain ⟨c0, c1, c2, c3, c4, c5, c6, c7, c8⟩ := blk9 (HX.out w7 HB7.out))
                    | (go_at_call 64; refine (HCO.out _ HB7.out).mono ?_; rintro e w8 ⟨rfl, b⟩; have HB8 := Lib.hid (to_ HB7.out b); clear b c0 c1 c2 c3 c4 c5 c6 c7 c8; obtain ⟨c0, c1, c2, c3, c4, c5, c6, c7, c8⟩ := blk9 (HX.out w8 HB8.out))
                    | (go_at_call 65; refine (HLI.out _ HB8.out).mono ?_; rintro e w9 ⟨rfl, b⟩; have HB9 := Lib.hid (to_ HB8.out b); clear b c0 c1 c2 c3 c4 c5 c6 c7 c8; obtain ⟨c0, c1, c2, c3, c4, c5, c6, c7, c8⟩ := blk9 (HX.out w9 HB9.out)))
                  clear hW1
                  go_loopw [6] (fun i wr => ∃ (k : Nat) (z : Int), k ≤ nR ∧ i = .int .i64 (k : Int) ∧ Hid (okF (nC : Int) (-1) rs = okF (nC : Int) z (rs.drop k) ∧ (k = 0 → z = -1) ∧ (0 < k → z = (rlAt rs (k - 1)).1 ∧ 0 ≤ z)) ∧ Below W1.heap.size W1 wr) (fun i _ => nR - (intOf i).toNat)
                  case atStart => exact ⟨0, -1, Nat.zero_le _, rfl, Lib.hid ⟨by rw [List.drop_zero], fun _ => rfl, fun h => by omega⟩, HB9.out⟩
                  case round =>
                    obtain ⟨k, z, hk, rfl, HO, hbel⟩ := hrel
                    have HBE := Lib.hid hbel
                    clear c0 c1 c2 c3 c4 c5 c6 c7 c8
                    obtain ⟨c0, c1, c2, c3, c4, c5, c6, c7, c8⟩ := blk9 (HX.out wr hbel)
                    by_cases hlt : k < nR
                    · have hkI : (k : Int) < (nR : Int) := by omega
                      have hk0 : (0 : Int) ≤ (k : Int) := by omega
                      obtain ⟨ad, had⟩ : ∃ ad, AR = some ad := (HRC.out wr hbel k hlt).imp fun _ h => h.1
                      subst had
                      obtain ⟨ad1, e1, _, a0, a1, a2⟩ := HRC.out wr hbel k hlt
                      injection e1 with e1
                      subst e1
                      have HK := Lib.hid (HO.out.1.trans (okF_at (HS.out k hlt)))
                      obtain ⟨x, hx⟩ : ∃ x, rlAt rs k = x := ⟨_, rfl⟩
                      have HX2 := Lib.hid hx
                      rw [hx] at HK a0 a1 a2
                      obtain ⟨x0, x1, x2⟩ := x
                      dsimp only at HK HX2 a0 a1 a2
                      have HZ := Lib.hid HO.out.2
                      clear hx
                      by_cases hkz : k = 0
                      · have hz : z = -1 := HO.out.2.1 hkz
                        have kz : decide ((0 : Int) < (k : Int)) = false := decide_eq_false (by omega)
                        have kz2 : ¬ (0 : Int) < (k : Int) := by omega
                        have kz3 : ¬ 0 < k := by omega
                        have HZM := Lib.hid (show z < x0 ↔ ¬ x0 < 0 from by omega)
                        have HZ8 := Lib.hid (show (0 : Int) ≤ 0 from by omega)
                        clear hbel hkz hz HO
                        by_cases h2 : x0 < 0
                        · have g2 : decide (x0 < 0) = true := decide_eq_true h2
                          have HF := Lib.hid (HRR.out.2 (show okF (nC : Int) (-1) rs = false from by rw [HK.out]; rw [decide_eq_false (show ¬ z < x0 from fun h => HZM.out.1 h h2)]; rfl))
                          go_wp2_with fail
                          go_ret
                          exact ⟨ret_int (by rw [HF.out]), to_ HB0.out HBE.out⟩
                        · have g2 : decide (x0 < 0) = false := decide_eq_false h2
                          by_cases h3 : (nC : Int) ≤ x0
                          · have g3 : decide ((nC : Int) ≤ x0) = true := decide_eq_true h3
                            have g3' : x0 ≥ (nC : Int) := h3
                            have HF := Lib.hid (HRR.out.2 (show okF (nC : Int) (-1) rs = false from by rw [HK.out]; rw [decide_eq_false (show ¬ x0 < (nC : Int) by omega)]; simp))
                            go_wp2_with fail
                            go_ret
                            exact ⟨ret_int (by rw [HF.out]), to_ HB0.out HBE.out⟩
                          · have g3 : decide ((nC : Int) ≤ x0) = false := decide_eq_false h3
                            have g3' : ¬ x0 ≥ (nC : Int) := h3
                            by_cases h5 : x1 < 0
                            · have g5 : decide (x1 < 0) = true := decide_eq_true h5
                              have hl5 : rfB9 (x0, x1, x2) = true := by unfold rfB9 frB; rw [decide_eq_false (show ¬ (0 : Int) ≤ x1 by omega)]; rfl
                              have HF := Lib.hid (HRR.out.2 (show okF (nC : Int) (-1) rs = false from by rw [HK.out]; rw [hl5]; simp))
                              go_wp2_with fail
                              go_ret
                              exact ⟨ret_int (by rw [HF.out]), to_ HB0.out HBE.out⟩
                            · have g5 : decide (x1 < 0) = false := decide_eq_false h5
                              by_cases h6 : (32 : Int) ≤ x1
                              · have g6 : decide ((32 : Int) ≤ x1) = true := decide_eq_true h6
                                have g6' : x1 ≥ (32 : Int) := h6
                                have hl6 : rfB9 (x0, x1, x2) = true := by unfold rfB9 frB; rw [decide_eq_false (show ¬ x1 ≤ (31 : Int) by omega)]; simp
                                have HF := Lib.hid (HRR.out.2 (show okF (nC : Int) (-1) rs = false from by rw [HK.out]; rw [hl6]; simp))
                                go_wp2_with fail
                                go_ret
                                exact ⟨ret_int (by rw [HF.out]), to_ HB0.out HBE.out⟩
                              · have g6 : decide ((32 : Int) ≤ x1) = false := decide_eq_false h6
                                have g6' : ¬ x1 ≥ (32 : Int) := h6
                                have hl7 : rfB9 (x0, x1, x2) = false := by unfold rfB9 frB; rw [decide_eq_true (show (0 : Int) ≤ x1 by omega), decide_eq_true (show x1 ≤ (31 : Int) by omega)]; rfl
                                have HF := Lib.hid (show okF (nC : Int) (-1) rs = okF (nC : Int) x0 (rs.drop (k + 1)) from by rw [HK.out, hl7, decide_eq_true (HZM.out.2 h2), decide_eq_true (show x0 < (nC : Int) by omega)]; rfl)
                                have HX0 := Lib.hid (show 0 ≤ x0 from by omega)
                                go_wp2_with fail
                                go_roundw
                                case rel => exact ⟨k + 1, x0, by omega, by go_num, Lib.hid ⟨HF.out, fun h => by omega, fun _ => ⟨by rw [Nat.add_sub_cancel, HX2.out], HX0.out⟩⟩, HBE.out⟩
                                case measure => simp [intOf]; omega
                      · obtain ⟨ad1, e1, _, p0, _, _⟩ := HRC.out wr hbel (k - 1) (by omega)
                        injection e1 with e1
                        subst e1
                        obtain ⟨hz, hz0⟩ := HO.out.2.2 (by omega)
                        rw [← hz] at p0
                        have kz : decide ((0 : Int) < (k : Int)) = true := decide_eq_true (by omega)
                        have kz2 : (0 : Int) < (k : Int) := by omega
                        have kz3 : 0 < k := by omega
                        have q4 : IntKind.i64.wrap ((k : Int) - 1) = ((k - 1 : Nat) : Int) := by
                          rw [show (k : Int) - 1 = ((k - 1 : Nat) : Int) by omega]
                          exact IntWalk.i64_in _ (by omega)
                        have q5 : (0 : Int) ≤ ((k - 1 : Nat) : Int) := by omega
                        have q6 : ((k - 1 : Nat) : Int) < (nR : Int) := by omega
                        have HZ0 := Lib.hid hz0
                        clear hbel hkz hz HO hz0
                        by_cases h2 : x0 < 0
                        · have g2 : decide (x0 < 0) = true := decide_eq_true h2
                          have HF := Lib.hid (HRR.out.2 (show okF (nC : Int) (-1) rs = false from by rw [HK.out]; rw [decide_eq_false (show ¬ z < x0 by have := HZ0.out; omega)]; rfl))
                          go_wp2_with fail
                          go_ret
                          exact ⟨ret_int (by rw [HF.out]), to_ HB0.out HBE.out⟩
                        · have g2 : decide (x0 < 0) = false := decide_eq_false h2
                          by_cases h3 : (nC : Int) ≤ x0
                          · have g3 : decide ((nC : Int) ≤ x0) = true := decide_eq_true h3
                            have g3' : x0 ≥ (nC : Int) := h3
                            have HF := Lib.hid (HRR.out.2 (show okF (nC : Int) (-1) rs = false from by rw [HK.out]; rw [decide_eq_false (show ¬ x0 < (nC : Int) by omega)]; simp))
                            go_wp2_with fail
                            go_ret
                            exact ⟨ret_int (by rw [HF.out]), to_ HB0.out HBE.out⟩
                          · have g3 : decide ((nC : Int) ≤ x0) = false := decide_eq_false h3
                            have g3' : ¬ x0 ≥ (nC : Int) := h3
                            by_cases h4 : x0 ≤ z
                            · have g4 : decide (x0 ≤ z) = true := decide_eq_true h4
                              have HF := Lib.hid (HRR.out.2 (show okF (nC : Int) (-1) rs = false from by rw [HK.out]; rw [decide_eq_false (show ¬ z < x0 by omega)]; rfl))
                              go_wp2_with fail
                              go_ret
                              exact ⟨ret_int (by rw [HF.out]), to_ HB0.out HBE.out⟩
                            · have g4 : decide (x0 ≤ z) = false := decide_eq_false h4
                              by_cases h5 : x1 < 0
                              · have g5 : decide (x1 < 0) = true := decide_eq_true h5
                                have hl5 : rfB9 (x0, x1, x2) = true := by unfold rfB9 frB; rw [decide_eq_false (show ¬ (0 : Int) ≤ x1 by omega)]; rfl
                                have HF := Lib.hid (HRR.out.2 (show okF (nC : Int) (-1) rs = false from by rw [HK.out]; rw [hl5]; simp))
                                go_wp2_with fail
                                go_ret
                                exact ⟨ret_int (by rw [HF.out]), to_ HB0.out HBE.out⟩
                              · have g5 : decide (x1 < 0) = false := decide_eq_false h5
                                by_cases h6 : (32 : Int) ≤ x1
                                · have g6 : decide ((32 : Int) ≤ x1) = true := decide_eq_true h6
                                  have g6' : x1 ≥ (32 : Int) := h6
                                  have hl6 : rfB9 (x0, x1, x2) = true := by unfold rfB9 frB; rw [decide_eq_false (show ¬ x1 ≤ (31 : Int) by omega)]; simp
                                  have HF := Lib.hid (HRR.out.2 (show okF (nC : Int) (-1) rs = false from by rw [HK.out]; rw [hl6]; simp))
                                  go_wp2_with fail
                                  go_ret
                                  exact ⟨ret_int (by rw [HF.out]), to_ HB0.out HBE.out⟩
                                · have g6 : decide ((32 : Int) ≤ x1) = false := decide_eq_false h6
                                  have g6' : ¬ x1 ≥ (32 : Int) := h6
                                  have hl7 : rfB9 (x0, x1, x2) = false := by unfold rfB9 frB; rw [decide_eq_true (show (0 : Int) ≤ x1 by omega), decide_eq_true (show x1 ≤ (31 : Int) by omega)]; rfl
                                  have HF := Lib.hid (show okF (nC : Int) (-1) rs = okF (nC : Int) x0 (rs.drop (k + 1)) from by rw [HK.out, hl7, decide_eq_true (show z < x0 by omega), decide_eq_true (show x0 < (nC : Int) by omega)]; rfl)
                                  have HX0 := Lib.hid (show 0 ≤ x0 from by omega)
                                  go_wp2_with fail
                                  go_roundw
                                  case rel => exact ⟨k + 1, x0, by omega, by go_num, Lib.hid ⟨HF.out, fun h => by omega, fun _ => ⟨by rw [Nat.add_sub_cancel, HX2.out], HX0.out⟩⟩, HBE.out⟩
                                  case measure => simp [intOf]; omega
                    · obtain rfl : k = nR := by omega
                      have HV := Lib.hid (HRR.out.1 (by rw [HO.out.1, List.drop_eq_nil_of_le (by have := HLN.out; omega)]; rfl))
                      clear hbel
                      go_wp2_with fail
                      go_ret
                      exact ⟨ret_int (by rw [HV.out]), to_ HB0.out HBE.out⟩
                · have hl2 : (rL == 0) = false := by simp [hl]
                  rw [if_pos hl]
                  clear hl
                  go_enter Tryz.func17, Tryz.ntmps17
                  go_wp2_with (first
                    | (go_at_call 63; refine HSL.out.mono ?_; rintro e w7 ⟨rfl, b⟩; have HB7 := Lib.hid b; clear b c0 c1 c2 c3 c4 c5 c6 c7 c8; obtain ⟨c0, c1, c2, c3, c4, c5, c6, c7, c8⟩ := blk9 (HX.out w7 HB7.out))
                    | (go_at_call 64; refine (HCO.out _ HB7.out).mono ?_; rintro e w8 ⟨rfl, b⟩; have HB8 := Lib.hid (to_ HB7.out b); clear b c0 c1 c2 c3 c4 c5 c6 c7 c8; obtain ⟨c0, c1, c2, c3, c4, c5, c6, c7, c8⟩ := blk9 (HX.out w8 HB8.out))
                    | (go_at_call 65; refine (HLI.out _ HB8.out).mono ?_; rintro e w9 ⟨rfl, b⟩; have HB9 := Lib.hid (to_ HB8.out b); clear b c0 c1 c2 c3 c4 c5 c6 c7 c8; obtain ⟨c0, c1, c2, c3, c4, c5, c6, c7, c8⟩ := blk9 (HX.out w9 HB9.out)))
                  go_ret
                  exact ⟨rfl, to_ HB0.out HB9.out⟩
        · have hc2 : (rC == 0) = false := by simp [hc]
          rw [if_pos hc]
          clear hc
          go_enter Tryz.func17, Tryz.ntmps17
          go_wp2_with (first
            | (go_at_call 63; refine HSL.out.mono ?_; rintro e w7 ⟨rfl, b⟩; have HB7 := Lib.hid b; clear b c0 c1 c2 c3 c4 c5 c6 c7 c8; obtain ⟨c0, c1, c2, c3, c4, c5, c6, c7, c8⟩ := blk9 (HX.out w7 HB7.out))
            | (go_at_call 64; refine (HCO.out _ HB7.out).mono ?_; rintro e w8 ⟨rfl, b⟩; have HB8 := Lib.hid (to_ HB7.out b); clear b c0 c1 c2 c3 c4 c5 c6 c7 c8; obtain ⟨c0, c1, c2, c3, c4, c5, c6, c7, c8⟩ := blk9 (HX.out w8 HB8.out)))
          go_ret
          exact ⟨rfl, to_ HB0.out HB8.out⟩
  · have hs2 : (rS == 0) = false := by simp [hs]
    rw [firN, if_pos hs]
    clear hs
    go_enter Tryz.func17, Tryz.ntmps17
    go_wp2_with (first
      | (go_at_call 63; refine HSL.out.mono ?_; rintro e w7 ⟨rfl, b⟩; have HB7 := Lib.hid b; clear b c0 c1 c2 c3 c4 c5 c6 c7 c8; obtain ⟨c0, c1, c2, c3, c4, c5, c6, c7, c8⟩ := blk9 (HX.out w7 HB7.out)))
    go_ret
    exact ⟨rfl, to_ HB0.out HB7.out⟩
end Go.Proofs.YtbknmapkdjmcjaaGreatDoor.By

namespace Go.Proofs.YtbknmapkdjmcjaaGreatDoor.By
open Go.RowKit
open Mem Gm Rf
set_option linter.unusedSimpArgs false
set_option linter.unusedVariables false

set_option maxRecDepth 100000 in
set_option maxHeartbeats 8000000 in
theorem funChecks_any (w : World) (AK AL AC AR : Option Addr) (nK cK nL cL nC cC nR cR : Nat) (x : Fn) (i : Int) (hF : FnW w AK nK cK AL nL cL AC nC cC AR nR cR x) (hB : (∀ z ∈ x.ks, -9223372036854775808 ≤ z ∧ z ≤ 9223372036854775807) ∧ ∀ k, k < x.cs.length → -9223372036854775808 ≤ (inAt x.cs k).1 ∧ (inAt x.cs k).1 ≤ 9223372036854775807) (hT : TX3 w) (h3 : 3 ≤ w.heap.size) :
    Calls Tryz.prog 3 #[.agg #[.int .i64 x.k, .slice AK nK cK, .int .i64 x.pd, .bool x.ns, .int .i64 x.f, .int .i64 x.t, .slice AL nL cL, .slice AC nC cC, .slice AR nR cR], .int .i64 i] w (TAns w) := by
  obtain ⟨W1, hW1⟩ : ∃ W1, w.alloc (.cells #[.int .i64 x.k, .slice AK nK cK, .int .i64 x.pd, .bool x.ns, .int .i64 x.f, .int .i64 x.t, .slice AL nL cL, .slice AC nC cC, .slice AR nR cR] 27) = W1 := ⟨_, rfl⟩
  have hsz1 : w.heap.size < W1.heap.size := by rw [← hW1]; simp
  have HB0 := Lib.hid (show Below w.heap.size w W1 by rw [← hW1]; exact alloc_ _ _)
  have HX := Lib.hid (show ∀ W, Below W1.heap.size W1 W → Blk W w.heap.size 27 #[.int .i64 x.k, .slice AK nK cK, .int .i64 x.pd, .bool x.ns, .int .i64 x.f, .int .i64 x.t, .slice AL nL cL, .slice AC nC cC, .slice AR nR cR] from fun W hb => (hb.block _ hsz1).trans (by rw [← hW1]; exact Blk.new w _ _))
  have HFW := Lib.hid (fewF_any W1 x.k x.pd x.f x.t x.ns AK AL AC AR nK cK nL cL nC cC nR cR)
  have HKN := Lib.hid (fun W (hb : Below W1.heap.size W1 W) => known16_any W (hT.on (to_ HB0.out hb)) (by have := HB0.out.size; have := hb.size; omega))
  obtain ⟨bf, hbf⟩ : ∃ b, fewB nK nL nC nR = b := ⟨_, rfl⟩
  rw [hbf] at HFW
  obtain ⟨c0, c1, c2, c3, c4, c5, c6, c7, c8⟩ := blk9 (HX.out W1 (Below.refl _ _))
  cases bf with
  | false =>
    clear hbf hT hF hB h3 hsz1
    go_enter Tryz.func3, Tryz.ntmps3
    go_wp2_with fail
    refine HFW.out.mono ?_
    rintro e w1 ⟨rfl, b1⟩
    have HB1 := Lib.hid b1
    clear b1
    go_wp2_with fail
    refine (HKN.out _ HB1.out).mono ?_
    rintro e w9 ⟨rfl, b9⟩
    have HB9 := Lib.hid (to_ HB0.out (to_ HB1.out b9))
    clear b9
    go_wp2_with fail
    go_ret
    exact ⟨rfl, HB9.out⟩
  | true =>
    have hn : nK ≤ 100 ∧ nL ≤ 100 ∧ nC ≤ 100 ∧ nR ≤ 100 := by
      unfold fewB at hbf
      simp at hbf
      omega
    have hm : nK ≤ 1000000 ∧ nL ≤ 1000000 ∧ nC ≤ 1000000 ∧ nR ≤ 1000000 := ⟨by omega, by omega, by omega, by omega⟩
    have H1 := Lib.hid (fun W (hb : Below W1.heap.size W1 W) => chkF_any W AK AL AC AR nK cK nL cL nC cC nR cR x (hF.on (to_ HB0.out hb)) (hT.on (to_ HB0.out hb)) hm)
    have H2 := Lib.hid (fun W (hb : Below W1.heap.size W1 W) => rchkF_any W AK AL AC AR nK cK nL cL nC cC nR cR x (hF.on (to_ HB0.out hb)) hm hB)
    have H3 := Lib.hid (fun W (hb : Below W1.heap.size W1 W) => frameF_any W AK AL AC AR nK cK nL cL nC cC nR cR x (hF.on (to_ HB0.out hb)) hm)
    have H4 := Lib.hid (fun W (hb : Below W1.heap.size W1 W) => rframeF_any W AK AL AC AR nK cK nL cL nC cC nR cR x (hF.on (to_ HB0.out hb)) hm)
    have H5 := Lib.hid (fun W (hb : Below W1.heap.size W1 W) => lineF_any W AK AL AC AR nK cK nL cL nC cC nR cR x (hF.on (to_ HB0.out hb)) hm i)
    have H6 := Lib.hid (fun W (hb : Below W1.heap.size W1 W) => rlineF_any W AK AL AC AR nK cK nL cL nC cC nR cR x (hF.on (to_ HB0.out hb)) hm i)
    generalize chF x = y1 at H1 H2
    generalize frmV x = y2 at H3 H4
    generalize lineV i x.ls 0 = y3 at H5 H6
    clear hbf hT hF hB h3 hsz1 hn hm
    go_enter Tryz.func3, Tryz.ntmps3
    go_wp2_with fail
    refine HFW.out.mono ?_
    rintro e w1 ⟨rfl, b1⟩
    have HB1 := Lib.hid b1
    have HBD := Lib.hid (show Below W1.heap.size W1 w1.drew from b1.drew)
    clear b1 c0 c1 c2 c3 c4 c5 c6 c7 c8 hW1
    go_wp2_with fail
    refine wp_region_noPanic ?_
    refine wp_region_held_drew (S := fun W' => W'.cell? ⟨w.heap.size, 0, none⟩ = some (.int .i64 x.k) ∧ W'.cell? ⟨w.heap.size, 1, none⟩ = some (.slice AK nK cK) ∧ W'.cell? ⟨w.heap.size, 2, none⟩ = some (.int .i64 x.pd) ∧ W'.cell? ⟨w.heap.size, 3, none⟩ = some (.bool x.ns) ∧ W'.cell? ⟨w.heap.size, 4, none⟩ = some (.int .i64 x.f) ∧ W'.cell? ⟨w.heap.size, 5, none⟩ = some (.int .i64 x.t) ∧ W'.cell? ⟨w.heap.size, 6, none⟩ = some (.slice AL nL cL) ∧ W'.cell? ⟨w.heap.size, 7, none⟩ = some (.slice AC nC cC) ∧ W'.cell? ⟨w.heap.size, 8, none⟩ = some (.slice AR nR cR)) (by kernel_rfl) (blk9 (HX.out _ HBD.out)) (fun hHeld => ?_)
    refine wpAnyH_take (i := 0) rfl (by kernel_rfl) (by kernel_rfl) (by kernel_rfl) (fun _ _ _ h => h) (Or.inl ⟨by rfl, by intro W hSW; (try dsimp only at hSW); go_simp; try (with_reducible rfl)⟩) hHeld ?_
    try simp only [Act.put, List.getElem_toArray, List.getElem_cons_zero, List.getElem_cons_succ, List.setIfInBounds_toArray, List.set_cons_zero, List.set_cons_succ]
    refine wpAnyH_take (i := 2) rfl (by kernel_rfl) (by kernel_rfl) (by kernel_rfl) (fun _ _ _ h => h) (Or.inl ⟨by rfl, by intro W hSW; (try dsimp only at hSW); go_simp; try (with_reducible rfl)⟩) hHeld ?_
    try simp only [Act.put, List.getElem_toArray, List.getElem_cons_zero, List.getElem_cons_succ, List.setIfInBounds_toArray, List.set_cons_zero, List.set_cons_succ]
    refine wpAnyH_ready (rs := [1]) (by kernel_rfl) (by simp) ?_
    refine AllReadyH.cons rfl (fun K hK => ?_) AllReadyH.nil
    go_simp
    refine (H1.out _ HBD.out).mono ?_
    rintro e v1 ⟨rfl, b⟩
    have HV1 := Lib.hid (to_ HBD.out b)
    clear b
    try go_wp2_with fail
    refine hK.out _ _ (blk9 (HX.out _ HV1.out)) ?_
    clear hK K hHeld
    intro hHeld
    try simp only [Act.put, List.getElem_toArray, List.getElem_cons_zero, List.getElem_cons_succ, List.setIfInBounds_toArray, List.set_cons_zero, List.set_cons_succ]
    refine wpAnyH_ready (rs := [3]) (by kernel_rfl) (by simp) ?_
    refine AllReadyH.cons rfl (fun K hK => ?_) AllReadyH.nil
    go_simp
    refine (H2.out _ HV1.out).mono ?_
    rintro e v2 ⟨rfl, b⟩
    have HV2 := Lib.hid (to_ HV1.out b)
    clear b
    try go_wp2_with fail
    refine hK.out _ _ (blk9 (HX.out _ HV2.out)) ?_
    clear hK K hHeld
    intro hHeld
    try simp only [Act.put, List.getElem_toArray, List.getElem_cons_zero, List.getElem_cons_succ, List.setIfInBounds_toArray, List.set_cons_zero, List.set_cons_succ]
    refine wpAnyH_take (i := 4) rfl (by kernel_rfl) (by kernel_rfl) (by kernel_rfl) (fun _ _ _ h => h) (Or.inl ⟨by rfl, by intro W hSW; (try dsimp only at hSW); go_simp; try (with_reducible rfl)⟩) hHeld ?_
    try simp only [Act.put, List.getElem_toArray, List.getElem_cons_zero, List.getElem_cons_succ, List.setIfInBounds_toArray, List.set_cons_zero, List.set_cons_succ]
    refine wpAnyH_take (i := 5) rfl (by kernel_rfl) (by kernel_rfl) (by kernel_rfl) (fun _ _ _ h => h) (Or.inl ⟨by rfl, by intro W hSW; (try dsimp only at hSW); go_simp; try (with_reducible rfl)⟩) hHeld ?_
    try simp only [Act.put, List.getElem_toArray, List.getElem_cons_zero, List.getElem_cons_succ, List.setIfInBounds_toArray, List.set_cons_zero, List.set_cons_succ]
    refine wpAnyH_take (i := 6) rfl (by kernel_rfl) (by kernel_rfl) (by kernel_rfl) (fun _ _ _ h => h) (Or.inl ⟨by rfl, by intro W hSW; (try dsimp only at hSW); go_simp; try (with_reducible rfl)⟩) hHeld ?_
    try simp only [Act.put, List.getElem_toArray, List.getElem_cons_zero, List.getElem_cons_succ, List.setIfInBounds_toArray, List.set_cons_zero, List.set_cons_succ]
    refine wpAnyH_take (i := 8) rfl (by kernel_rfl) (by kernel_rfl) (by kernel_rfl) (fun _ _ _ h => h) (Or.inl ⟨by rfl, by intro W hSW; (try dsimp only at hSW); go_simp; try (with_reducible rfl)⟩) hHeld ?_
    try simp only [Act.put, List.getElem_toArray, List.getElem_cons_zero, List.getElem_cons_succ, List.setIfInBounds_toArray, List.set_cons_zero, List.set_cons_succ]
    refine wpAnyH_ready (rs := [7]) (by kernel_rfl) (by simp) ?_
    refine AllReadyH.cons rfl (fun K hK => ?_) AllReadyH.nil
    go_simp
    refine (H3.out _ HV2.out).mono ?_
    rintro e v3 ⟨rfl, b⟩
    have HV3 := Lib.hid (to_ HV2.out b)
    clear b
    try go_wp2_with fail
    refine hK.out _ _ (blk9 (HX.out _ HV3.out)) ?_
    clear hK K hHeld
    intro hHeld
    try simp only [Act.put, List.getElem_toArray, List.getElem_cons_zero, List.getElem_cons_succ, List.setIfInBounds_toArray, List.set_cons_zero, List.set_cons_succ]
    refine wpAnyH_ready (rs := [9]) (by kernel_rfl) (by simp) ?_
    refine AllReadyH.cons rfl (fun K hK => ?_) AllReadyH.nil
    go_simp
    refine (H4.out _ HV3.out).mono ?_
    rintro e v4 ⟨rfl, b⟩
    have HV4 := Lib.hid (to_ HV3.out b)
    clear b
    try go_wp2_with fail
    refine hK.out _ _ (blk9 (HX.out _ HV4.out)) ?_
    clear hK K hHeld
    intro hHeld
    try simp only [Act.put, List.getElem_toArray, List.getElem_cons_zero, List.getElem_cons_succ, List.setIfInBounds_toArray, List.set_cons_zero, List.set_cons_succ]
    refine wpAnyH_take (i := 10) rfl (by kernel_rfl) (by kernel_rfl) (by kernel_rfl) (fun _ _ _ h => h) (Or.inl ⟨by rfl, by intro W hSW; (try dsimp only at hSW); go_simp; try (with_reducible rfl)⟩) hHeld ?_
    try simp only [Act.put, List.getElem_toArray, List.getElem_cons_zero, List.getElem_cons_succ, List.setIfInBounds_toArray, List.set_cons_zero, List.set_cons_succ]
    refine wpAnyH_take (i := 11) rfl (by kernel_rfl) (by kernel_rfl) (by kernel_rfl) (fun _ _ _ h => h) (Or.inl ⟨by rfl, by intro W hSW; (try dsimp only at hSW); go_simp; try (with_reducible rfl)⟩) hHeld ?_
    try simp only [Act.put, List.getElem_toArray, List.getElem_cons_zero, List.getElem_cons_succ, List.setIfInBounds_toArray, List.set_cons_zero, List.set_cons_succ]
    refine wpAnyH_take (i := 12) rfl (by kernel_rfl) (by kernel_rfl) (by kernel_rfl) (fun _ _ _ h => h) (Or.inl ⟨by rfl, by intro W hSW; (try dsimp only at hSW); go_simp; try (with_reducible rfl)⟩) hHeld ?_
    try simp only [Act.put, List.getElem_toArray, List.getElem_cons_zero, List.getElem_cons_succ, List.setIfInBounds_toArray, List.set_cons_zero, List.set_cons_succ]
    refine wpAnyH_take (i := 13) rfl (by kernel_rfl) (by kernel_rfl) (by kernel_rfl) (fun _ _ _ h => h) (Or.inl ⟨by rfl, by intro W hSW; (try dsimp only at hSW); go_simp; try (with_reducible rfl)⟩) hHeld ?_
    try simp only [Act.put, List.getElem_toArray, List.getElem_cons_zero, List.getElem_cons_succ, List.setIfInBounds_toArray, List.set_cons_zero, List.set_cons_succ]
    refine wpAnyH_take (i := 14) rfl (by kernel_rfl) (by kernel_rfl) (by kernel_rfl) (fun _ _ _ h => h) (Or.inl ⟨by rfl, by intro W hSW; (try dsimp only at hSW); go_simp; try (with_reducible rfl)⟩) hHeld ?_
    try simp only [Act.put, List.getElem_toArray, List.getElem_cons_zero, List.getElem_cons_succ, List.setIfInBounds_toArray, List.set_cons_zero, List.set_cons_succ]
    refine wpAnyH_take (i := 16) rfl (by kernel_rfl) (by kernel_rfl) (by kernel_rfl) (fun _ _ _ h => h) (Or.inl ⟨by rfl, by intro W hSW; (try dsimp only at hSW); go_simp; try (with_reducible rfl)⟩) hHeld ?_
    try simp only [Act.put, List.getElem_toArray, List.getElem_cons_zero, List.getElem_cons_succ, List.setIfInBounds_toArray, List.set_cons_zero, List.set_cons_succ]
    refine wpAnyH_take (i := 17) rfl (by kernel_rfl) (by kernel_rfl) (by kernel_rfl) (fun _ _ _ h => h) (Or.inl ⟨by rfl, by intro W hSW; (try dsimp only at hSW); go_simp; try (with_reducible rfl)⟩) hHeld ?_
    try simp only [Act.put, List.getElem_toArray, List.getElem_cons_zero, List.getElem_cons_succ, List.setIfInBounds_toArray, List.set_cons_zero, List.set_cons_succ]
    refine wpAnyH_ready (rs := [15]) (by kernel_rfl) (by simp) ?_
    refine AllReadyH.cons rfl (fun K hK => ?_) AllReadyH.nil
    go_simp
    refine (H5.out _ HV4.out).mono ?_
    rintro e v5 ⟨rfl, b⟩
    have HV5 := Lib.hid (to_ HV4.out b)
    clear b
    try go_wp2_with fail
    refine hK.out _ _ (blk9 (HX.out _ HV5.out)) ?_
    clear hK K hHeld
    intro hHeld
    try simp only [Act.put, List.getElem_toArray, List.getElem_cons_zero, List.getElem_cons_succ, List.setIfInBounds_toArray, List.set_cons_zero, List.set_cons_succ]
    refine wpAnyH_ready (rs := [18]) (by kernel_rfl) (by simp) ?_
    refine AllReadyH.cons rfl (fun K hK => ?_) AllReadyH.nil
    go_simp
    refine (H6.out _ HV5.out).mono ?_
    rintro e v6 ⟨rfl, b⟩
    have HV6 := Lib.hid (to_ HV5.out b)
    clear b
    try go_wp2_with fail
    refine hK.out _ _ (blk9 (HX.out _ HV6.out)) ?_
    clear hK K hHeld
    intro hHeld
    try simp only [Act.put, List.getElem_toArray, List.getElem_cons_zero, List.getElem_cons_succ, List.setIfInBounds_toArray, List.set_cons_zero, List.set_cons_succ]
    refine wpAnyH_take (i := 19) rfl (by kernel_rfl) (by kernel_rfl) (by kernel_rfl) (fun _ _ _ h => h) (Or.inl ⟨by rfl, by intro W hSW; (try dsimp only at hSW); go_simp; try (with_reducible rfl)⟩) hHeld ?_
    try simp only [Act.put, List.getElem_toArray, List.getElem_cons_zero, List.getElem_cons_succ, List.setIfInBounds_toArray, List.set_cons_zero, List.set_cons_succ]
    refine wpAnyH_take (i := 20) rfl (by kernel_rfl) (by kernel_rfl) (by kernel_rfl) (fun _ _ _ h => h) (Or.inl ⟨by rfl, by intro W hSW; (try dsimp only at hSW); go_simp; try (with_reducible rfl)⟩) hHeld ?_
    try simp only [Act.put, List.getElem_toArray, List.getElem_cons_zero, List.getElem_cons_succ, List.setIfInBounds_toArray, List.set_cons_zero, List.set_cons_succ]
    refine wpAnyH_take (i := 21) rfl (by kernel_rfl) (by kernel_rfl) (by kernel_rfl) (fun _ _ _ h => h) (Or.inl ⟨by rfl, by intro W hSW; (try dsimp only at hSW); go_simp; try (with_reducible rfl)⟩) hHeld ?_
    try simp only [Act.put, List.getElem_toArray, List.getElem_cons_zero, List.getElem_cons_succ, List.setIfInBounds_toArray, List.set_cons_zero, List.set_cons_succ]
    refine wpAnyH_ready (rs := [22]) (by kernel_rfl) (by simp) ?_
    refine AllReadyH.cons rfl (fun K hK => ?_) AllReadyH.nil
    go_simp
    refine (HKN.out _ HV6.out).mono ?_
    rintro e v7 ⟨rfl, b⟩
    have HV7 := Lib.hid (to_ HV6.out b)
    clear b
    try go_wp2_with fail
    refine hK.out _ _ (blk9 (HX.out _ HV7.out)) ?_
    clear hK K hHeld
    intro hHeld
    try simp only [Act.put, List.getElem_toArray, List.getElem_cons_zero, List.getElem_cons_succ, List.setIfInBounds_toArray, List.set_cons_zero, List.set_cons_succ]
    refine wpAnyH_take (i := 23) rfl (by kernel_rfl) (by kernel_rfl) (by kernel_rfl) (fun _ _ _ h => h) (Or.inl ⟨by rfl, by intro W hSW; (try dsimp only at hSW); go_simp; try (with_reducible rfl)⟩) hHeld ?_
    try simp only [Act.put, List.getElem_toArray, List.getElem_cons_zero, List.getElem_cons_succ, List.setIfInBounds_toArray, List.set_cons_zero, List.set_cons_succ]
    refine wpAnyH_take (i := 24) rfl (by kernel_rfl) (by kernel_rfl) (by kernel_rfl) (fun _ _ _ h => h) (Or.inl ⟨by rfl, by intro W hSW; (try dsimp only at hSW); go_simp; try (with_reducible rfl)⟩) hHeld ?_
    try simp only [Act.put, List.getElem_toArray, List.getElem_cons_zero, List.getElem_cons_succ, List.setIfInBounds_toArray, List.set_cons_zero, List.set_cons_succ]
    refine wpAnyH_done (by kernel_rfl) ?_ _
    refine NoPanic.normal ?_
    go_wp2_with fail
    go_ret
    exact ⟨rfl, to_ HB0.out HV7.out⟩
end Go.Proofs.YtbknmapkdjmcjaaGreatDoor.By
