/-
  WALK: slices.Concat at []byte (function 38): a new row of the call's own, all parts behind one another.
-/
import Derived.Test.YtbknmapkdjmcjaaGreatDoorBy
namespace Go.Proofs.YtbknmapkdjmcjaaGreatDoor.By
open Go.ChangeShapes Go.WideShapes Go.ChangeAt Go.RowKit
open Mem

/-- A part: where it lies, its capacity, its cells. -/
def pv (p : Option Addr × Nat × List Value) : Value := .slice p.1 p.2.2.length p.2.1

/-- The first k parts, behind one another. -/
def flat (ps : List (Option Addr × Nat × List Value)) (k : Nat) : List Value := ((ps.take k).map (·.2.2)).flatten

theorem flat_zero (ps : List (Option Addr × Nat × List Value)) : flat ps 0 = [] := by simp [flat]
theorem flat_succ (ps : List (Option Addr × Nat × List Value)) (k : Nat) (h : k < ps.length) : flat ps (k + 1) = flat ps k ++ ps[k].2.2 := by
  unfold flat
  rw [List.take_succ_eq_append_getElem h, List.map_append, List.flatten_append]
  simp
theorem flat_le (ps : List (Option Addr × Nat × List Value)) (k : Nat) : (flat ps k).length ≤ (flat ps ps.length).length := by
  have h : flat ps ps.length = flat ps k ++ ((ps.drop k).map (·.2.2)).flatten := by
    unfold flat
    rw [List.take_of_length_le (Nat.le_refl _), ← List.flatten_append, ← List.map_append, List.take_append_drop]
  rw [h, List.length_append]; omega

set_option maxHeartbeats 1000000 in
set_option maxRecDepth 100000 in
theorem concat_any (g B : Nat) (ps : List (Option Addr × Nat × List Value)) (w : World)
    (hc : ∀ k (h : k < ps.length), w.cell? ⟨g, k, none⟩ = some (pv ps[k])) (hB : B ≤ w.heap.size)
    (hp : ∀ p ∈ ps, SlV w B (pv p) p.2.2) (h1 : ∀ p ∈ ps, ∀ u ∈ p.2.2, u.oneCell' = true) (hl : (flat ps ps.length).length ≤ 1099511627776) (hn : ps.length ≤ 1000000) :
    Calls Tryz.prog 68 #[.slice (some ⟨g, 0, none⟩) ps.length ps.length] w (Owns w (flat ps ps.length)) := by
  obtain ⟨i0, hi, hz0, hz1, hz2⟩ := info_parts info5
  have HC := Lib.hid hc
  have HP := Lib.hid hp
  have H1 := Lib.hid h1
  have HZ := Lib.hid (flat_zero ps)
  have HS := Lib.hid (flat_succ ps)
  have HL := Lib.hid (flat_le ps)
  clear hc hp h1
  obtain ⟨m, hm⟩ : ∃ m, ps.length = m := ⟨_, rfl⟩
  rw [hm] at hl hn ⊢
  have HM := Lib.hid hm
  clear hm
  go_enter Tryz.func68, Tryz.ntmps68
  go_wp2
  go_loop [3, 11] (fun s i => ∃ (k : Nat) (q : Nat), k ≤ m ∧ i = .int .i64 k ∧ s = .int .i64 q ∧ Hid (q = (flat ps k).length)) (fun _ i => m - (intOf i).toNat)
  case atStart => exact ⟨0, 0, by omega, rfl, rfl, Lib.hid (by rw [HZ.out]; rfl)⟩
  case round =>
    obtain ⟨k, q, hk, rfl, rfl, HQ⟩ := hrel
    have hq : q ≤ 1099511627776 := by
      have h2 := HL.out k
      rw [HM.out] at h2
      have := HQ.out
      omega
    by_cases hlt : k < m
    · have hk' : k < ps.length := by have := HM.out; omega
      have hcell := HC.out k hk'
      have hs := HS.out k hk'
      obtain ⟨⟨A, c, vs⟩, hpk⟩ : ∃ p, ps[k] = p := ⟨_, rfl⟩
      rw [hpk] at hcell hs
      unfold pv at hcell
      simp only at hcell hs
      have hq2 := HL.out (k + 1)
      rw [HM.out] at hq2
      obtain ⟨n, hnn⟩ : ∃ n, vs.length = n := ⟨_, rfl⟩
      rw [hnn] at hcell
      have hsl : (flat ps (k + 1)).length = q + n := by rw [hs, List.length_append, hnn, HQ.out]
      have hqn : q + n ≤ 1099511627776 := by omega
      have HSL := Lib.hid hsl
      clear hs hsl hq2 hpk hnn hk'
      go_wp2
      go_round
      case rel => exact ⟨k + 1, q + n, by omega, by go_num, by go_num, Lib.hid HSL.out.symm⟩
      case measure => simp [intOf]; omega
    · obtain rfl : m = k := by omega
      go_wp2_with (go_at_call 149; refine (grow_nil q _ hq).mono ?_; rintro e w1 ⟨v1, rfl, hown, hb⟩)
      have hown0 : w1.ownsRow w.heap.size 5 1 v1 (flat ps 0).length (flat ps 0) := by rw [HZ.out]; exact hown
      have HO := Lib.hid hown0
      have HB := Lib.hid hb
      clear hown hown0 hb
      go_loopw [6, 27] (fun v i wr => ∃ k : Nat, k ≤ m ∧ i = .int .i64 k ∧ Hid (wr.ownsRow w.heap.size 5 1 v (flat ps k).length (flat ps k)) ∧ Hid (Below w.heap.size w wr)) (fun _ i _ => m - (intOf i).toNat)
      case atStart => exact ⟨0, by omega, rfl, HO, HB⟩
      case round =>
        clear HO HB
        obtain ⟨k, hk, rfl, HO, HB⟩ := hrel
        by_cases hlt : k < m
        · have hk' : k < ps.length := by have := HM.out; omega
          have hcell := HC.out k hk'
          have hs := HS.out k hk'
          have hpp := HP.out _ (List.getElem_mem hk')
          have hone := H1.out _ (List.getElem_mem hk')
          obtain ⟨⟨A, c, vs⟩, hpk⟩ : ∃ p, ps[k] = p := ⟨_, rfl⟩
          rw [hpk] at hcell hs hpp hone
          unfold pv at hcell hpp
          simp only at hcell hs hpp hone
          have hq2 := HL.out (k + 1)
          rw [HM.out] at hq2
          have hcw : wr.cell? ⟨g, k, none⟩ = some (.slice A vs.length c) := by
            rw [HB.out.cell (p := ⟨g, k, none⟩) (World.block_lt_of_cell? w _ hcell)]
            exact hcell
          have hpp2 := hpp.below (HB.out.mono hB)
          have hlen : (flat ps k).length + vs.length ≤ 1099511627776 := by
            have e := congrArg List.length hs
            rw [List.length_append] at e
            omega
          have hbw := HB.out.size
          have HS2 := Lib.hid hs
          have HONE := Lib.hid hone
          have HN := Lib.hid (show vs.length = vs.length * 1 by omega)
          clear hcell hs hpp hone hq2 hpk hk'
          generalize hf : flat ps k = fl at HO hlen HS2
          clear hf
          rcases hpp2.inv with ⟨rfl, hn0, rfl, rfl⟩ | ⟨ad, rfl, _, hnc, _, hrow⟩
          · clear hpp2 hn0 HN
            simp only [List.length_nil] at hcw
            go_wp2_with (at_builtin; refine wpList_append_own_none rfl (.tmp 31) (.tmp 32) _ rfl w.heap.size 5 i0 1 Tryz.underlying35 hi _ fl.length fl rfl HO.out rfl ?_)
            go_roundw
            case rel => exact ⟨k + 1, by omega, by go_num, Lib.hid (by rw [HS2.out, List.append_nil]; exact HO.out), HB⟩
            case measure => simp [intOf]; omega
          · have HR := Lib.hid (show ∀ j u, vs[j]? = some u → wr.cell? (ad.add j) = some u from fun j u hu => (hrow j u hu).2)
            clear hrow hpp2
            generalize hnn : vs.length = n at hcw hlen HN hnc
            have HNN := Lib.hid hnn
            have HN1 := Lib.hid (show vs.length = n * 1 by omega)
            clear hnn HN
            have c2 : fl.length + n ≤ maxLen := by unfold maxLen; omega
            have c3 : (fl.length + n) * 1 ≤ 140737488355328 := by omega
            go_wp2_with (at_builtin; go_must (refine wpList_append_own _ rfl (.tmp 31) (.tmp 32) _ rfl w.heap.size 5 i0 (.int .u8 0) 1 1 Tryz.underlying35 hi hz0 hz1 hz2 rfl (by decide) _ fl.length fl rfl HO.out ad n c vs rfl HN1.out HR.out HONE.out c2 c3 hbw ?_); intro v2 w2 hown2 hg2 hn2)
            have HO2 := Lib.hid (show w2.ownsRow w.heap.size 5 1 v2 (flat ps (k + 1)).length (flat ps (k + 1)) by rw [HS2.out, List.length_append, HNN.out]; exact hown2)
            have HB2 := Lib.hid (show Below w.heap.size w w2 from HB.out.grown hg2 hbw (fun q hq => (HO.out.lt q hq).1))
            clear hown2 hg2 hn2
            go_roundw
            case rel => exact ⟨k + 1, by omega, by go_num, HO2, HB2⟩
            case measure => simp [intOf]; omega
        · obtain rfl : m = k := by omega
          go_wp2
          go_ret
          exact ⟨_, rfl, HO.out, HB.out⟩
end Go.Proofs.YtbknmapkdjmcjaaGreatDoor.By
