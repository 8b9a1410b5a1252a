/-
  WALK: steps: what waits, and behind it more.
-/
import Derived.Test.YtfgnlemoodfgoaaGc
namespace Go.Proofs.Ytfgnlemoodfgoaa.By
open Go.RowKit
open Mem Gm Rf

theorem infoS : (Try.prog.info? 50).map (fun i => (i.zero, i.size, i.bytes)) = some (some (.agg #[.int .i64 0, .int .i64 0]), 2, 16) := by kernel_rfl

/-- The cells of what waits: places, and those ahead of them. -/
def stepsC (q : List (Int × Int)) : List Value := q.flatMap fun s => [.int .i64 s.1, .int .i64 s.2]
theorem stepsC_append (q r : List (Int × Int)) : stepsC (q ++ r) = stepsC q ++ stepsC r := by simp [stepsC]
theorem stepsC_one (a b : Int) : stepsC [(a, b)] = [.int .i64 a, .int .i64 b] := rfl
theorem stepsC_cons (a b : Int) (q : List (Int × Int)) : stepsC ((a, b) :: q) = .int .i64 a :: .int .i64 b :: stepsC q := by simp [stepsC]
theorem stepsC_length (q : List (Int × Int)) : (stepsC q).length = q.length * 2 := by
  induction q with
  | nil => rfl
  | cons s q ih => obtain ⟨a, b⟩ := s; rw [stepsC_cons]; simp [ih]; omega

set_option maxHeartbeats 2000000 in
theorem steps_any (w : World) (L B : Nat) (v pv : Value) (q : List (Int × Int)) (ahead : Int) (ps : List Int) (hM : Mid w L 50 2 v q.length (stepsC q)) (hp : SlV w B pv (ints ps)) (hBL : B ≤ L) (hL : L ≤ w.heap.size) (hq : q.length ≤ 10000000) (hps : ps.length ≤ 10000000) :
    Calls Try.prog 29 #[v, .int .i64 ahead, pv] w fun e w' => ∃ v', e = .returned v' ∧ Mid w' L 50 2 v' (q.length + ps.length) (stepsC (q ++ ps.map fun p => (p, ahead))) ∧ Keeps (fun k => k < L) w w' := by
  obtain ⟨i0, hi, hz0, hz1, hz2⟩ := info_parts infoS
  obtain ⟨A, c, rfl⟩ := hp.form
  obtain ⟨N, hN⟩ : ∃ N, ps.length = N := ⟨_, rfl⟩
  have hl : (ints ps).length = N := by simp [ints, hN]
  rw [hl] at hp ⊢
  have hr := ints_row (l := ps) (by rw [hN]; exact hp)
  have h0 : Mid w L 50 2 v (q.length + 0) (stepsC (q ++ (ps.take 0).map fun p => (p, ahead))) := by simpa using hM
  have hall : q ++ (ps.take N).map (fun p => (p, ahead)) = q ++ ps.map fun p => (p, ahead) := by rw [← hN, List.take_length]
  rw [hN] at hps
  have HALL := Lib.hid hall
  have HN := Lib.hid hN
  have HR := Lib.hid hr
  clear hM hp hl hr hall hN
  go_enter Try.func29, Try.ntmps29
  go_wp2
  go_loopw [0, 11] (fun u i wr => ∃ k : Nat, k ≤ N ∧ i = .int .i64 k ∧ Mid wr L 50 2 u (q.length + k) (stepsC (q ++ (ps.take k).map fun p => (p, ahead))) ∧ Keeps (fun k => k < L) w wr) (fun _ i _ => N - (intOf i).toNat)
  case atStart => exact ⟨0, Nat.zero_le _, rfl, h0, Keeps.refl _ _⟩
  case round =>
    obtain ⟨k, hk, rfl, hM, hK⟩ := hrel
    by_cases hlt : k < N
    · have hr := HR.out
      have HNE : Hid (ps ≠ []) := fun e => by have := HN.out; rw [e] at this; simp at this; omega
      rcases hr with ⟨e, _⟩ | ⟨ad, rfl, hb, hc⟩
      · exact absurd e HNE.out
      have hcell := hK.cell (show (ad.add k).block < L by rw [add_block]; omega) (hc k (by rw [HN.out]; exact hlt))
      obtain ⟨p, hpe⟩ : ∃ p, el ps k = p := ⟨_, rfl⟩
      rw [hpe] at hcell
      have HX : Hid (stepsC (q ++ (ps.take k).map fun p => (p, ahead)) ++ [.int .i64 p, .int .i64 ahead] = stepsC (q ++ (ps.take (k + 1)).map fun p => (p, ahead))) := by
        show _ = _
        have hkl : k < ps.length := by rw [HN.out]; exact hlt
        rw [List.take_succ_eq_append_getElem hkl, List.map_append, ← List.append_assoc, stepsC_append (q ++ List.map (fun p => (p, ahead)) (List.take k ps)), el_at hkl, hpe]
        rfl
      have hnew : ∀ j u, [Value.int .i64 p, .int .i64 ahead][j]? = some u → (wr.alloc (.cells #[.int .i64 p, .int .i64 ahead] 50)).cell? ((⟨wr.heap.size, 0, none⟩ : Addr).add j) = some u := fun j u hu => by
        rw [add_plain, Nat.zero_add, (Blk.new wr _ _).cell]; simpa using hu
      have hMA := Lib.hid (hM.keep (w' := wr.alloc (.cells #[.int .i64 p, .int .i64 ahead] 50)) fun g _ hg => Below.heap_alloc _ _ _ hg)
      have HW := Lib.hid hnew
      have HLs := Lib.hid (show L ≤ (wr.alloc (.cells #[.int .i64 p, .int .i64 ahead] 50)).heap.size by have := hK.size; simp; omega)
      have HB1 := Lib.hid (show q.length + k + 1 ≤ maxLen by unfold maxLen; omega)
      have HB2 := Lib.hid (show (q.length + k + 1) * 16 ≤ 140737488355328 by omega)
      clear hM hnew hpe hc
      go_wp2_with (at_builtin; refine wpList_append_mid _ rfl _ _ 47 rfl 50 i0 (.agg #[.int .i64 0, .int .i64 0]) 2 16 Try.underlying47 hi hz0 hz1 hz2 rfl L _ _ _ rfl hMA.out ⟨wr.heap.size, 0, none⟩ 1 1 [.int .i64 p, .int .i64 ahead] rfl (by decide) rfl HW.out (by simp [Value.oneCell']) HB1.out HB2.out HLs.out ?_; intro v' w' row h2 h3 h4; have H2 := Lib.hid h2; have H3 := Lib.hid h3; have H4 := Lib.hid h4; clear h2 h3 h4)
      have hM2 := H2.out
      rw [HX.out] at hM2
      have hK2 : Keeps (fun k => k < L) w w' := (hK.alloc _).grown H3.out fun r e h => by have := H4.out r e; omega
      go_roundw
      case rel => exact ⟨k + 1, by omega, by go_num, hM2, hK2⟩
      case measure => simp [intOf]; omega
    · obtain rfl : k = N := by omega
      rw [HALL.out] at hM
      go_wp2
      go_ret
      exact ⟨_, rfl, by rw [HN.out]; exact hM, hK⟩
end Go.Proofs.Ytfgnlemoodfgoaa.By
