/-
  WALKS of layer 15: Marks, Refs; the document's own.
-/
import Derived.Test.YthkbdclnnpcoiaaDoorEp
namespace Go.Proofs.YthkbdclnnpcoiaaDoor.By
open Go.RowKit
open Mem Gm Rf
set_option linter.unusedSimpArgs false
set_option linter.unusedVariables false

def fmL (rs : List Rl) (nR N : Nat) : List Int := (List.range N).map (fmT rs nR)
theorem fmL_len (rs : List Rl) (nR N : Nat) : (fmL rs nR N).length = N := by simp [fmL]
theorem fmL_next (rs : List Rl) (nR k : Nat) : fmL rs nR (k + 1) = fmL rs nR k ++ [fmT rs nR k] := by unfold fmL; rw [List.range_succ]; simp
def rfV (rs : List Rl) (nR p : Nat) : Int := if fmT rs nR p = -1 then -1 else (rlAt rs (fmT rs nR p).toNat).2.1
def rfL (rs : List Rl) (nR N : Nat) : List Int := (List.range N).map (rfV rs nR)
theorem rfL_len (rs : List Rl) (nR N : Nat) : (rfL rs nR N).length = N := by simp [rfL]
theorem arr_iw {w : World} {db N : Nat} {f : Nat → Int} (h : Blk w db 3 (arrN N fun p => .int .i64 (f p))) (hN : N ≤ 5000) : IW w (.slice (some ⟨db, 0, none⟩) N N) ((List.range N).map f) := by
  have hl : (ints ((List.range N).map f)).length = N := by simp [ints]
  have : SlV w w.heap.size (.slice (some ⟨db, 0, none⟩) (ints ((List.range N).map f)).length N) (ints ((List.range N).map f)) := .at_ _ _ _ (by omega) (by unfold maxLen; omega) fun j u hu => ⟨h.lt, by
    have hj : j < N := by have := (List.getElem?_eq_some_iff.1 hu).1; omega
    rw [add_plain, Nat.zero_add, h.cell, arrN_at _ hj]
    unfold ints at hu
    rw [List.getElem?_map, List.getElem?_map, List.getElem?_range hj] at hu
    exact hu⟩
  rwa [hl] at this
theorem fmT_min (rs : List Rl) (p : Nat) : ∀ k, (fmT rs k p = -1 ∧ ∀ i, i < k → (rlAt rs i).1 ≠ (p : Int)) ∨ ∃ i, i < k ∧ fmT rs k p = (i : Int) ∧ (rlAt rs i).1 = (p : Int) ∧ ∀ j, j < i → (rlAt rs j).1 ≠ (p : Int)
  | 0 => .inl ⟨rfl, fun i hi => by omega⟩
  | k + 1 => by
    rw [fmT_next]
    rcases fmT_min rs p k with ⟨h1, h2⟩ | ⟨i, h1, h2, h3, h4⟩
    · by_cases hk : (rlAt rs k).1 = (p : Int)
      · rw [if_pos ⟨h1, hk⟩]
        exact .inr ⟨k, by omega, rfl, hk, h2⟩
      · rw [if_neg fun hh => hk hh.2]
        refine .inl ⟨h1, fun i hi => ?_⟩
        by_cases e : i = k
        · subst e; exact hk
        · exact h2 i (by omega)
    · rw [if_neg fun hh => by have := hh.1; omega]
      exact .inr ⟨i, by omega, h2, h3, h4⟩
theorem fmT_is {rs : List Rl} {k p : Nat} {z : Int} (h : (z = -1 ∧ ∀ i, i < k → (rlAt rs i).1 ≠ (p : Int)) ∨ ∃ i, i < k ∧ z = (i : Int) ∧ (rlAt rs i).1 = (p : Int) ∧ ∀ j, j < i → (rlAt rs j).1 ≠ (p : Int)) : fmT rs k p = z := by
  rcases fmT_min rs p k with ⟨h1, h2⟩ | ⟨i, h1, h2, h3, h4⟩
  · rcases h with ⟨rfl, _⟩ | ⟨j, g1, g2, g3, g4⟩
    · exact h1
    · exact absurd g3 (h2 j g1)
  · rcases h with ⟨rfl, g2⟩ | ⟨j, g1, g2, g3, g4⟩
    · exact absurd h3 (g2 i h1)
    · rcases Nat.lt_trichotomy i j with hh | hh | hh
      · exact absurd h3 (g4 i hh)
      · subst hh; rw [h2, g2]
      · exact absurd g3 (h4 j hh)

theorem marks_small (w : World) (AR : Option Addr) (nR cR : Nat) (n : Int) (rs : List Rl) (h : RlL w AR nR cR rs) (hR : nR ≤ 1000000) :
    Calls Tryd.prog 13 #[.slice AR nR cR, .int .i64 n] w (IAns (min (max n 0) 4096).toNat (fmL rs nR (min (max n 0) 4096).toNat) w) := by
  obtain ⟨N, hN⟩ : ∃ N : Nat, min (max n 0) 4096 = (N : Int) := ⟨(min (max n 0) 4096).toNat, by omega⟩
  have hN5 : N ≤ 5000 := by omega
  have HF := Lib.hid (firsts_any w AR nR cR N rs h hR hN5)
  have HN5 := Lib.hid hN5
  rw [show (min (max n 0) 4096).toNat = N by omega]
  clear h hR
  have HN := Lib.hid hN
  clear hN hN5
  go_enter Tryd.func13, Tryd.ntmps13
  go_wp2_with fail
  rw [HN.out]
  refine HF.out.mono ?_
  rintro e w2 ⟨db, rfl, _, hb, hbel⟩
  have HB := Lib.hid hb
  have HE := Lib.hid hbel
  clear hb hbel
  go_wp2_with fail
  go_ret
  exact ⟨_, _, rfl, arr_iw HB.out HN5.out, HE.out⟩

/-- A row of the call's own that is answered. -/
def OAns (L : Nat) (l : List Int) (w : World) (e : Ending) (w' : World) : Prop := ∃ A c, e = .returned (.slice A L c) ∧ w'.ownsRow w.heap.size 3 1 (.slice A L c) L (ints l) ∧ Below w.heap.size w w'
theorem oans_i {L : Nat} {l : List Int} {w w' : World} {e : Ending} (h : OAns L l w e w') : IAns L l w e w' := by
  obtain ⟨A, c, h1, h2, h3⟩ := h
  exact ⟨A, c, h1, SlV.of_own h2, h3⟩
theorem news_at (W : World) (x : Int) : ∀ j u, [Value.int .i64 x][j]? = some u → (W.alloc (.cells #[.int .i64 x] 3)).cell? ((⟨W.heap.size, 0, none⟩ : Addr).add j) = some u := fun j u hu => by
  rw [add_plain, Nat.zero_add, (Blk.new W _ _).cell]; simpa using hu

set_option maxRecDepth 100000 in
set_option maxHeartbeats 2000000 in
theorem rmarks_own (w : World) (AR : Option Addr) (nR cR N : Nat) (n : Int) (rs : List Rl) (h : RlL w AR nR cR rs) (hR : nR ≤ 1000000) (hN : (min (max n 0) 4096).toNat = N) :
    Calls Tryd.prog 14 #[.slice AR nR cR, .int .i64 n] w (OAns N (fmL rs nR N) w) := by
  obtain ⟨i0, hi, hz0, hz1, hz2⟩ := info_parts infoI
  have HR := Lib.hid (fun W (hb : Below w.heap.size w W) i (hi : i < nR) => (h.on hb).at_ hi)
  have HNN := Lib.hid hN
  have hNB : N ≤ 4096 := by omega
  clear h hN
  go_enter Tryd.func14, Tryd.ntmps14
  go_wp2_with fail
  go_loopw [5, 6] (fun v i wr => ∃ k : Nat, k ≤ N ∧ i = .int .i64 (k : Int) ∧ wr.ownsRow w.heap.size 3 1 v k (ints (fmL rs nR k)) ∧ Below w.heap.size w wr) (fun _ i _ => N - (intOf i).toNat)
  case atStart => exact ⟨0, Nat.zero_le _, rfl, World.ownsRow_nil _ _ _ _, Below.refl _ _⟩
  case round =>
    obtain ⟨k, hk, rfl, hown, hbel⟩ := hrel
    have HOW := Lib.hid hown
    have HBE := Lib.hid hbel
    clear hown hbel
    by_cases hlt : k < N
    · have h1 : (k : Int) < n := by have := HNN.out; omega
      have h2 : (k : Int) < 4096 := by have := HNN.out; omega
      have HNX := Lib.hid (fmL_next rs nR k)
      go_wp2_with fail
      obtain ⟨wq, hwq⟩ : ∃ wq, wq = wr := ⟨_, rfl⟩
      subst hwq
      go_loop [7, 8] (fun a q => ∃ d : Nat, d ≤ nR ∧ q = .int .i64 ((d : Int) - 1) ∧ ∃ z : Int, a = .int .i64 z ∧ Hid ((z = -1 ∧ ∀ i, d ≤ i → i < nR → (rlAt rs i).1 ≠ (k : Int)) ∨ ∃ i, d ≤ i ∧ i < nR ∧ z = (i : Int) ∧ (rlAt rs i).1 = (k : Int) ∧ ∀ j, d ≤ j → j < i → (rlAt rs j).1 ≠ (k : Int))) (fun _ q => (intOf q + 1).toNat)
      case atStart => exact ⟨nR, Nat.le_refl _, rfl, -1, rfl, Lib.hid (.inl ⟨rfl, fun i h1 h2 => by omega⟩)⟩
      case round =>
        obtain ⟨d, hd, rfl, z, rfl, HZ⟩ := hrel
        cases d with
        | zero =>
          have HF := Lib.hid (show fmT rs nR k = z from fmT_is (by
            rcases HZ.out with ⟨g1, g2⟩ | ⟨i, _, g2, g3, g4, g5⟩
            · exact .inl ⟨g1, fun i hi => g2 i (Nat.zero_le _) hi⟩
            · exact .inr ⟨i, g2, g3, g4, fun j hj => g5 j (Nat.zero_le _) hj⟩))
          rw [HF.out] at HNX
          have hneg : ¬ (0 : Int) ≤ ((0 : Nat) : Int) - 1 := by omega
          clear HZ HF
          go_wp2_with (at_builtin; go_loud (refine wpList_append_own _ rfl _ _ 32 rfl w.heap.size 3 i0 (.int .i64 0) 1 8 Tryd.underlying32 hi hz0 hz1 hz2 rfl (by decide) _ _ _ rfl (own_keep HOW.out fun gg _ hlt _ => Below.heap_alloc _ _ _ hlt) ⟨wq.heap.size, 0, none⟩ 1 1 [.int .i64 z] rfl rfl (news_at wq z) (by simp [Value.oneCell']) (by unfold maxLen; omega) (by omega) (by have := HBE.out.size; simp; omega) ?_; intro v' w' h2 h3 h4; clear h4; have H2 := Lib.hid h2; have H3 := Lib.hid h3; clear h2 h3))
          go_roundw
          case rel =>
            have hb2 := to_ HBE.out (alloc_ wq (.cells #[.int .i64 z] 3))
            refine ⟨k + 1, by omega, by go_num, ?_, hb2.grown H3.out hb2.size fun r e => (HOW.out.lt r e).1⟩
            have h9 := H2.out
            rw [ints_app1] at h9
            rw [HNX.out]
            exact h9
          case measure => simp [intOf]; omega
        | succ e =>
          obtain ⟨ad, rfl, _, d0, _⟩ := HR.out wq HBE.out e (by omega)
          have heI : (e : Int) < (nR : Int) := by omega
          have he0 : 0 ≤ (e : Int) := by omega
          have hee : (((e + 1 : Nat) : Int) - 1) = (e : Int) := by omega
          rw [hee]
          by_cases hx : (rlAt rs e).1 = (k : Int)
          · have HZ2 := Lib.hid (show ((e : Int) = -1 ∧ ∀ i, e ≤ i → i < nR → (rlAt rs i).1 ≠ (k : Int)) ∨ ∃ i, e ≤ i ∧ i < nR ∧ (e : Int) = (i : Int) ∧ (rlAt rs i).1 = (k : Int) ∧ ∀ j, e ≤ j → j < i → (rlAt rs j).1 ≠ (k : Int) from .inr ⟨e, Nat.le_refl _, by omega, rfl, hx, fun j h1 h2 => by omega⟩)
            rw [hx] at d0
            clear hx hee HZ
            go_wp2_with fail
            go_round
            case rel => exact ⟨e, by omega, by go_num, (e : Int), rfl, HZ2⟩
            case measure => simp [intOf]
          · have hxb : ((rlAt rs e).1 == (k : Int)) = false := by simpa using hx
            have HZ2 := Lib.hid (show (z = -1 ∧ ∀ i, e ≤ i → i < nR → (rlAt rs i).1 ≠ (k : Int)) ∨ ∃ i, e ≤ i ∧ i < nR ∧ z = (i : Int) ∧ (rlAt rs i).1 = (k : Int) ∧ ∀ j, e ≤ j → j < i → (rlAt rs j).1 ≠ (k : Int) from by
              rcases HZ.out with ⟨g1, g2⟩ | ⟨i, g1, g2, g3, g4, g5⟩
              · refine .inl ⟨g1, fun i h1 h2 => ?_⟩
                by_cases e9 : i = e
                · subst e9; exact hx
                · exact g2 i (by omega) h2
              · refine .inr ⟨i, by omega, g2, g3, g4, fun j h1 h2 => ?_⟩
                by_cases e9 : j = e
                · subst e9; exact hx
                · exact g5 j (by omega) h2)
            generalize (rlAt rs e).1 = x at d0 hxb
            clear hx hee HZ
            go_wp2_with fail
            go_round
            case rel => exact ⟨e, by omega, by go_num, z, rfl, HZ2⟩
            case measure => simp [intOf]
    · obtain rfl : k = N := by omega
      obtain ⟨A3, c3, rfl⟩ := own_formW HOW.out
      by_cases h1 : (k : Int) < n
      · have h2 : ¬ (k : Int) < 4096 := by have := HNN.out; omega
        go_wp2_with fail
        go_ret
        exact ⟨_, _, rfl, HOW.out, HBE.out⟩
      · go_wp2_with fail
        go_ret
        exact ⟨_, _, rfl, HOW.out, HBE.out⟩
end Go.Proofs.YthkbdclnnpcoiaaDoor.By
