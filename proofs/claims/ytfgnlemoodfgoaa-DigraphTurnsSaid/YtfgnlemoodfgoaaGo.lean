/-
  WALKS of the document's own graphs: Few, Edge; lists and graphs that are alike.
-/
import Derived.Test.YtfgnlemoodfgoaaGc
import Derived.LoopIn
import Derived.WalkLawsBesides
namespace Go.Proofs.Ytfgnlemoodfgoaa.By
open Go.RowKit
open Mem Gm Rf

/-- What there is to read of a graph, by places. -/
theorem Gr.reads {w : World} {B : Nat} {A : Option Addr} {N c : Nat} {g : List (List Int)} (h : Gr w B (.slice A N c) g) (hN : g.length = N) {i : Nat} (hi : i < N) :
    ∃ ad A' c', A = some ad ∧ w.cell? (ad.add i) = some (.slice A' (rowOf g i).length c') ∧ (rowOf g i).length ≤ maxLen ∧ ∀ j, j < (rowOf g i).length → ∃ ad', A' = some ad' ∧ w.cell? (ad'.add j) = some (.int .i64 (el (rowOf g i) j)) := by
  rw [← hN] at h hi
  obtain ⟨ad, c2, e, _, _, _, hr⟩ := h.rows (by omega)
  injection e with e1
  obtain ⟨A', c', h1, h2⟩ := hr i hi
  refine ⟨ad, A', c', e1, h1, ?_, fun j hj => ?_⟩
  · rcases h2.inv with ⟨_, h, _⟩ | ⟨_, _, _, h3, h4, _⟩
    · unfold maxLen; omega
    · omega
  · rcases ints_row h2 with ⟨e, _⟩ | ⟨ad', e, _, hc⟩
    · rw [e] at hj; simp at hj
    · exact ⟨ad', e, hc j hj⟩

theorem Gr.len {w : World} {B : Nat} {A : Option Addr} {N c : Nat} {g : List (List Int)} (h : Gr w B (.slice A N c) g) : N ≤ 9223372036854775807 := by
  obtain ⟨rs, h1, h2, _⟩ := h
  rcases h1.inv with ⟨_, h, _⟩ | ⟨_, _, _, h3, h4, _⟩
  · omega
  · unfold maxLen at h4; omega

def FewAns (g : List (List Int)) (w : World) (e : Ending) (w' : World) : Prop := ∃ bl, e = .returned (.bool bl) ∧ (bl = true ↔ g.length ≤ 24 ∧ ∀ i, i < g.length → (rowOf g i).length ≤ 30) ∧ w = w'

set_option maxHeartbeats 1000000 in
theorem few_any (w : World) (B : Nat) (A : Option Addr) (c : Nat) (g : List (List Int)) (h : Gr w B (.slice A g.length c) g) :
    Calls Try.prog 6 #[.slice A g.length c] w (FewAns g w) := by
  obtain ⟨N, hN⟩ : ∃ N, g.length = N := ⟨_, rfl⟩
  rw [hN] at h
  have hl := h.len
  have HC := Lib.hid (fun i (hi : i < N) => h.reads hN hi)
  have HN := Lib.hid hN
  rw [hN]
  clear h hN
  go_enter Try.func6, Try.ntmps6
  go_wp2_with fail
  go_loop [3] (fun i => ∃ k : Nat, k ≤ N ∧ i = .int .i64 k ∧ Hid (∀ j, j < k → (rowOf g j).length ≤ 30)) (fun i => N - (intOf i).toNat)
  case atStart => exact ⟨0, by omega, rfl, Lib.hid (fun j hj => by omega)⟩
  case round =>
    obtain ⟨k, hk, rfl, HO⟩ := hrel
    by_cases hlt : k < N
    · obtain ⟨ad, A', c', rfl, hcell, hm, _⟩ := HC.out k hlt
      obtain ⟨M, hM⟩ : ∃ M, (rowOf g k).length = M := ⟨_, rfl⟩
      rw [hM] at hcell
      have HM := Lib.hid hM
      clear hM hm
      by_cases hb : 30 < M
      · have hd : decide ((30 : Int) < (M : Int)) = true := by simp; omega
        have HF := Lib.hid (show (false = true ↔ N ≤ 24 ∧ ∀ i, i < N → (rowOf g i).length ≤ 30) from ⟨fun h => (by cases h), fun h => by have := h.2 k hlt; rw [HM.out] at this; omega⟩)
        clear hb
        go_wp2_with fail
        go_ret
        exact ⟨false, rfl, by rw [HN.out]; exact HF.out, rfl⟩
      · have hd : decide ((30 : Int) < (M : Int)) = false := by simp; omega
        have HO2 := Lib.hid (show ∀ j, j < k + 1 → (rowOf g j).length ≤ 30 from fun j hj => by
          by_cases e : j = k
          · subst e; rw [HM.out]; omega
          · exact HO.out j (by omega))
        clear hb HO
        go_wp2_with fail
        go_round
        case rel => exact ⟨k + 1, by omega, by go_num, HO2⟩
        case measure => simp [intOf]; omega
    · obtain rfl : k = N := by omega
      obtain ⟨bl, hbl⟩ : ∃ bl, decide ((k : Int) ≤ 24) = bl := ⟨_, rfl⟩
      have HF := Lib.hid (show (bl = true ↔ k ≤ 24 ∧ ∀ i, i < k → (rowOf g i).length ≤ 30) by
        rw [← hbl, decide_eq_true_eq]
        exact ⟨fun h => ⟨by omega, HO.out⟩, fun h => by omega⟩)
      go_wp2_with fail
      go_ret
      exact ⟨bl, rfl, by rw [HN.out]; exact HF.out, rfl⟩

set_option maxHeartbeats 1000000 in
theorem edge_any (w : World) (B : Nat) (A : Option Addr) (c : Nat) (g : List (List Int)) (h : Gr w B (.slice A g.length c) g) (a b : Nat) (ha : a < g.length) (hb : b < g.length) :
    Calls Try.prog 18 #[.slice A g.length c, .int .i64 (a : Int), .int .i64 (b : Int)] w fun e w' => e = .returned (.bool (E g a b)) ∧ w = w' := by
  obtain ⟨N, hN⟩ : ∃ N, g.length = N := ⟨_, rfl⟩
  rw [hN] at h
  have hE : ∀ bl, (bl = true ↔ (b : Int) ∈ rowOf g a) → E g a b = bl := fun bl hbl => by
    rw [Bool.eq_iff_iff, hbl, E_iff]
    exact ⟨fun h => h.2.2, fun h => ⟨ha, hb, h⟩⟩
  have HE := Lib.hid hE
  rw [hN] at ha hb ⊢
  obtain ⟨ad, A', c', rfl, hcell, hm, hel⟩ := h.reads hN ha
  obtain ⟨M, hM⟩ : ∃ M, (rowOf g a).length = M := ⟨_, rfl⟩
  rw [hM] at hcell hm hel
  have hmM : M ≤ 9223372036854775807 := by unfold maxLen at hm; omega
  have HM := Lib.hid hM
  have HC := Lib.hid hel
  have h1 : ¬ ((a : Int) < 0) := by omega
  have h2 : ¬ ((b : Int) < 0) := by omega
  have h3 : ¬ ((N : Int) ≤ (a : Int)) := by omega
  have h4 : ¬ ((N : Int) ≤ (b : Int)) := by omega
  have h5 : (a : Int) < (N : Int) := by omega
  clear h hN hE hM hel hm
  go_enter Try.func18, Try.ntmps18
  go_wp2_with fail
  go_loop [7] (fun i => ∃ k : Nat, k ≤ M ∧ i = .int .i64 k ∧ Hid (∀ j, j < k → el (rowOf g a) j ≠ (b : Int))) (fun i => M - (intOf i).toNat)
  case atStart => exact ⟨0, by omega, rfl, Lib.hid (fun j hj => by omega)⟩
  case round =>
    obtain ⟨k, hk, rfl, HO⟩ := hrel
    by_cases hlt : k < M
    · obtain ⟨ad', rfl, hx⟩ := HC.out k hlt
      obtain ⟨x, hxe⟩ : ∃ x, el (rowOf g a) k = x := ⟨_, rfl⟩
      rw [hxe] at hx
      by_cases hxb : x = (b : Int)
      · have hd : (x == (b : Int)) = true := by simpa using hxb
        have HF := Lib.hid (HE.out true ⟨fun _ => by
          rw [← hxb, ← hxe, ← el_at (by rw [HM.out]; exact hlt)]; exact List.getElem_mem _, fun _ => rfl⟩)
        clear hxe hxb
        go_wp2_with fail
        go_ret
        exact ⟨ret_bool HF.out.symm, rfl⟩
      · have hd : (x == (b : Int)) = false := by simpa using hxb
        have HO2 := Lib.hid (show ∀ j, j < k + 1 → el (rowOf g a) j ≠ (b : Int) from fun j hj => by
          by_cases e : j = k
          · subst e; rw [hxe]; exact hxb
          · exact HO.out j (by omega))
        clear hxe hxb HO
        go_wp2_with fail
        go_round
        case rel => exact ⟨k + 1, by omega, by go_num, HO2⟩
        case measure => simp [intOf]; omega
    · obtain rfl : k = M := by omega
      have HF := Lib.hid (HE.out false ⟨fun h => (by cases h), fun h => by
        obtain ⟨j, hj, e⟩ := List.getElem_of_mem h
        exact absurd (by rw [← el_at hj]; exact e) (HO.out j (by rw [← HM.out]; exact hj))⟩)
      clear HO
      go_wp2_with fail
      go_ret
      exact ⟨ret_bool HF.out.symm, rfl⟩

set_option maxHeartbeats 1000000 in
theorem ints_same (w : World) (B B2 : Nat) (A A2 : Option Addr) (c c2 : Nat) (l : List Int) (h : SlV w B (.slice A l.length c) (ints l)) (h2 : SlV w B2 (.slice A2 l.length c2) (ints l)) (hl : l.length ≤ 1000000) :
    Calls Try.prog 15 #[.slice A l.length c, .slice A2 l.length c2] w fun e w' => e = .returned (.bool true) ∧ ∃ n, w' = w.drewN n := by
  have hr := ints_row h
  have hr2 := ints_row h2
  obtain ⟨n, hn⟩ : ∃ n, l.length = n := ⟨_, rfl⟩
  rw [hn] at hl hr hr2 ⊢
  have HR := Lib.hid (show ∀ j, j < n → ∃ ad ad2, A = some ad ∧ A2 = some ad2 ∧ w.cell? (ad.add j) = some (.int .i64 (el l j)) ∧ w.cell? (ad2.add j) = some (.int .i64 (el l j)) from fun j hj => by
    rcases hr with ⟨e, _⟩ | ⟨ad, e, _, hc⟩
    · rw [e] at hn; simp at hn; omega
    · rcases hr2 with ⟨e2, _⟩ | ⟨ad2, e2, _, hc2⟩
      · rw [e2] at hn; simp at hn; omega
      · exact ⟨ad, ad2, e, e2, hc j hj, hc2 j hj⟩)
  clear h h2 hr hr2 hn
  go_enter Try.func15, Try.ntmps15
  go_wp2_with fail
  go_loopw [5] (fun i wr => ∃ k q : Nat, k ≤ n ∧ i = .int .i64 k ∧ wr = w.drewN q) (fun i _ => n - (intOf i).toNat)
  case atStart => exact ⟨0, 0, by omega, rfl, rfl⟩
  case round =>
    obtain ⟨k, q, hk, rfl, rfl⟩ := hrel
    by_cases hlt : k < n
    · obtain ⟨ad, ad2, rfl, rfl, hx, hx2⟩ := HR.out k hlt
      generalize el l k = y at hx hx2
      have hk0 : (0 : Int) ≤ (k : Int) := by omega
      have hkn : (k : Int) < (n : Int) := by omega
      go_wp2_with fail
      go_quiet (fail)
      go_wp2_with fail
      go_roundw
      case rel => exact ⟨k + 1, q + nq, by omega, by go_num, by first | rfl | exact World.drewN_drewN ..⟩
      case measure => simp [intOf]; omega
    · go_wp2_with fail
      go_ret
      exact ⟨rfl, q, rfl⟩

set_option maxHeartbeats 1000000 in
theorem bools_same (w : World) (B B2 : Nat) (A A2 : Option Addr) (n c c2 : Nat) (o : Nat → Bool) (h : SlV w B (.slice A n c) ((List.range n).map fun i => .bool (o i))) (h2 : SlV w B2 (.slice A2 n c2) ((List.range n).map fun i => .bool (o i))) (hl : n ≤ 1000000) :
    Calls Try.prog 12 #[.slice A n c, .slice A2 n c2] w fun e w' => e = .returned (.bool true) ∧ ∃ n, w' = w.drewN n := by
  have HR := Lib.hid (show ∀ j, j < n → ∃ ad ad2, A = some ad ∧ A2 = some ad2 ∧ w.cell? (ad.add j) = some (.bool (o j)) ∧ w.cell? (ad2.add j) = some (.bool (o j)) from fun j hj => by
    rcases h.inv with ⟨_, e, _⟩ | ⟨ad, e, _, _, _, hc⟩
    · omega
    · rcases h2.inv with ⟨_, e2, _⟩ | ⟨ad2, e2, _, _, _, hc2⟩
      · omega
      · exact ⟨ad, ad2, e, e2, (hc j _ (by simp [hj])).2, (hc2 j _ (by simp [hj])).2⟩)
  clear h h2
  go_enter Try.func12, Try.ntmps12
  go_wp2_with fail
  go_loopw [5] (fun i wr => ∃ k q : Nat, k ≤ n ∧ i = .int .i64 k ∧ wr = w.drewN q) (fun i _ => n - (intOf i).toNat)
  case atStart => exact ⟨0, 0, by omega, rfl, rfl⟩
  case round =>
    obtain ⟨k, q, hk, rfl, rfl⟩ := hrel
    by_cases hlt : k < n
    · obtain ⟨ad, ad2, rfl, rfl, hx, hx2⟩ := HR.out k hlt
      generalize o k = y at hx hx2
      have hk0 : (0 : Int) ≤ (k : Int) := by omega
      have hkn : (k : Int) < (n : Int) := by omega
      have hyy : (y != y) = false := by cases y <;> rfl
      go_wp2_with fail
      go_quiet (fail)
      go_wp2_with fail
      go_roundw
      case rel => exact ⟨k + 1, q + nq, by omega, by go_num, by first | rfl | exact World.drewN_drewN ..⟩
      case measure => simp [intOf]; omega
    · go_wp2_with fail
      go_ret
      exact ⟨rfl, q, rfl⟩
end Go.Proofs.Ytfgnlemoodfgoaa.By
