/-
  Ep, Eq, Er
-/
import Derived.Test.YtbcabomblfehlabPf
import Derived.Test.YtbcabomblfehlabPb
import Derived.Laws.CopyRow
import Derived.Laws.CopyOwn

namespace Go.Proofs.Ytbcabomblfehlab.By
open Go.RowKit
open Mem Gm Rf
set_option linter.unusedSimpArgs false
set_option linter.unusedVariables false

/-- The place of the first reference at a place, of the first k. -/
def fmT (rs : List Rl) (k : Nat) (p : Nat) : Int := match (List.range k).find? (fun i => (rlAt rs i).1 == (p : Int)) with | some i => (i : Int) | none => -1
theorem fmT_next (rs : List Rl) (k p : Nat) : fmT rs (k + 1) p = if fmT rs k p = -1 ∧ (rlAt rs k).1 = (p : Int) then (k : Int) else fmT rs k p := by
  unfold fmT
  rw [List.range_succ, List.find?_append]
  cases h : (List.range k).find? (fun i => (rlAt rs i).1 == (p : Int)) with
  | none =>
    by_cases hk : (rlAt rs k).1 = (p : Int)
    · simp [hk]
    · simp [hk]
  | some i =>
    first
      | (simp; done)
      | (simp; intro hh; omega)
end Go.Proofs.Ytbcabomblfehlab.By

namespace Go.Proofs.Ytbcabomblfehlab.By
open Go.RowKit
open Mem Gm Rf
set_option linter.unusedSimpArgs false
set_option linter.unusedVariables false

def fmL (rs : List Rl) (nR N : Nat) : List Int := (List.range N).map (fmT rs nR)
theorem fmL_next (rs : List Rl) (nR k : Nat) : fmL rs nR (k + 1) = fmL rs nR k ++ [fmT rs nR k] := by unfold fmL; rw [List.range_succ]; simp
def rfV (rs : List Rl) (nR p : Nat) : Int := if fmT rs nR p = -1 then -1 else (rlAt rs (fmT rs nR p).toNat).2.1
def rfL (rs : List Rl) (nR N : Nat) : List Int := (List.range N).map (rfV rs nR)
theorem fmT_min (rs : List Rl) (p : Nat) : ∀ k, (fmT rs k p = -1 ∧ ∀ i, i < k → (rlAt rs i).1 ≠ (p : Int)) ∨ ∃ i, i < k ∧ fmT rs k p = (i : Int) ∧ (rlAt rs i).1 = (p : Int) ∧ ∀ j, j < i → (rlAt rs j).1 ≠ (p : Int)
  | 0 => .inl ⟨rfl, fun i hi => by omega⟩
  | k + 1 => by
    rw [fmT_next]
    rcases fmT_min rs p k with ⟨h1, h2⟩ | ⟨i, h1, h2, h3, h4⟩
    · by_cases hk : (rlAt rs k).1 = (p : Int)
      · rw [if_pos ⟨h1, hk⟩]
        exact .inr ⟨k, by omega, rfl, hk, h2⟩
      · rw [if_neg fun hh => hk hh.2]
        refine .inl ⟨h1, fun i hi => ?_⟩
        by_cases e : i = k
        · subst e; exact hk
        · exact h2 i (by omega)
    · rw [if_neg fun hh => by have := hh.1; omega]
      exact .inr ⟨i, by omega, h2, h3, h4⟩
theorem fmT_is {rs : List Rl} {k p : Nat} {z : Int} (h : (z = -1 ∧ ∀ i, i < k → (rlAt rs i).1 ≠ (p : Int)) ∨ ∃ i, i < k ∧ z = (i : Int) ∧ (rlAt rs i).1 = (p : Int) ∧ ∀ j, j < i → (rlAt rs j).1 ≠ (p : Int)) : fmT rs k p = z := by
  rcases fmT_min rs p k with ⟨h1, h2⟩ | ⟨i, h1, h2, h3, h4⟩
  · rcases h with ⟨rfl, _⟩ | ⟨j, g1, g2, g3, g4⟩
    · exact h1
    · exact absurd g3 (h2 j g1)
  · rcases h with ⟨rfl, g2⟩ | ⟨j, g1, g2, g3, g4⟩
    · exact absurd h3 (g2 i h1)
    · rcases Nat.lt_trichotomy i j with hh | hh | hh
      · exact absurd h3 (g4 i hh)
      · subst hh; rw [h2, g2]
      · exact absurd g3 (h4 j hh)

/-- A row of the call's own that is answered. -/
def OAns (L : Nat) (l : List Int) (w : World) (e : Ending) (w' : World) : Prop := ∃ A c, e = .returned (.slice A L c) ∧ w'.ownsRow w.heap.size 3 1 (.slice A L c) L (ints l) ∧ Below w.heap.size w w'
theorem news_at (W : World) (x : Int) : ∀ j u, [Value.int .i64 x][j]? = some u → (W.alloc (.cells #[.int .i64 x] 3)).cell? ((⟨W.heap.size, 0, none⟩ : Addr).add j) = some u := fun j u hu => by
  rw [add_plain, Nat.zero_add, (Blk.new W _ _).cell]; simpa using hu

set_option maxRecDepth 100000 in
set_option maxHeartbeats 2000000 in
theorem rmarks_own (w : World) (AR : Option Addr) (nR cR N : Nat) (n : Int) (rs : List Rl) (h : RlL w AR nR cR rs) (hR : nR ≤ 1000000) (hN : (min (max n 0) 4096).toNat = N) :
    Calls Try.prog 70 #[.slice AR nR cR, .int .i64 n] w (OAns N (fmL rs nR N) w) := by
  obtain ⟨i0, hi, hz0, hz1, hz2⟩ := info_parts infoI
  have HR := Lib.hid (fun W (hb : Below w.heap.size w W) i (hi : i < nR) => (h.on hb).at_ hi)
  have HNN := Lib.hid hN
  have hNB : N ≤ 4096 := by omega
  clear h hN
  go_enter Try.func70, Try.ntmps70
  go_wp2_with fail
  go_loopw [5, 6] (fun v i wr => ∃ k : Nat, k ≤ N ∧ i = .int .i64 (k : Int) ∧ wr.ownsRow w.heap.size 3 1 v k (ints (fmL rs nR k)) ∧ Below w.heap.size w wr) (fun _ i _ => N - (intOf i).toNat)
  case atStart => exact ⟨0, Nat.zero_le _, rfl, World.ownsRow_nil _ _ _ _, Below.refl _ _⟩
  case round =>
    obtain ⟨k, hk, rfl, hown, hbel⟩ := hrel
    have HOW := Lib.hid hown
    have HBE := Lib.hid hbel
    clear hown hbel
    by_cases hlt : k < N
    · have h1 : (k : Int) < n := by have := HNN.out; omega
      have h2 : (k : Int) < 4096 := by have := HNN.out; omega
      have HNX := Lib.hid (fmL_next rs nR k)
      go_wp2_with fail
      obtain ⟨wq, hwq⟩ : ∃ wq, wq = wr := ⟨_, rfl⟩
      subst hwq
      go_loop [7, 8] (fun a q => ∃ d : Nat, d ≤ nR ∧ q = .int .i64 ((d : Int) - 1) ∧ ∃ z : Int, a = .int .i64 z ∧ Hid ((z = -1 ∧ ∀ i, d ≤ i → i < nR → (rlAt rs i).1 ≠ (k : Int)) ∨ ∃ i, d ≤ i ∧ i < nR ∧ z = (i : Int) ∧ (rlAt rs i).1 = (k : Int) ∧ ∀ j, d ≤ j → j < i → (rlAt rs j).1 ≠ (k : Int))) (fun _ q => (intOf q + 1).toNat)
      case atStart => exact ⟨nR, Nat.le_refl _, rfl, -1, rfl, Lib.hid (.inl ⟨rfl, fun i h1 h2 => by omega⟩)⟩
      case round =>
        obtain ⟨d, hd, rfl, z, rfl, HZ⟩ := hrel
        cases d with
        | zero =>
          have HF := Lib.hid (show fmT rs nR k = z from fmT_is (by
            rcases HZ.out with ⟨g1, g2⟩ | ⟨i, _, g2, g3, g4, g5⟩
            · exact .inl ⟨g1, fun i hi => g2 i (Nat.zero_le _) hi⟩
            · exact .inr ⟨i, g2, g3, g4, fun j hj => g5 j (Nat.zero_le _) hj⟩))
          rw [HF.out] at HNX
          have hneg : ¬ (0 : Int) ≤ ((0 : Nat) : Int) - 1 := by omega
          clear HZ HF
          go_wp2_with (at_builtin; go_loud (refine wpList_append_own _ rfl _ _ 24 rfl w.heap.size 3 i0 (.int .i64 0) 1 8 Try.underlying24 hi hz0 hz1 hz2 rfl (by decide) _ _ _ rfl (own_keep HOW.out fun gg _ hlt _ => Below.heap_alloc _ _ _ hlt) ⟨wq.heap.size, 0, none⟩ 1 1 [.int .i64 z] rfl rfl (news_at wq z) (by simp [Value.oneCell']) (by unfold maxLen; omega) (by omega) (by have := HBE.out.size; simp; omega) ?_; intro v' w' h2 h3 h4; clear h4; have H2 := Lib.hid h2; have H3 := Lib.hid h3; clear h2 h3))
          go_roundw
          case rel =>
            have hb2 := to_ HBE.out (alloc_ wq (.cells #[.int .i64 z] 3))
            refine ⟨k + 1, by omega, by go_num, ?_, hb2.grown H3.out hb2.size fun r e => (HOW.out.lt r e).1⟩
            have h9 := H2.out
            rw [ints_app1] at h9
            rw [HNX.out]
            exact h9
          case measure => simp [intOf]; omega
        | succ e =>
          obtain ⟨ad, rfl, _, d0, _⟩ := HR.out wq HBE.out e (by omega)
          have heI : (e : Int) < (nR : Int) := by omega
          have he0 : 0 ≤ (e : Int) := by omega
          have hee : (((e + 1 : Nat) : Int) - 1) = (e : Int) := by omega
          rw [hee]
          by_cases hx : (rlAt rs e).1 = (k : Int)
          · have HZ2 := Lib.hid (show ((e : Int) = -1 ∧ ∀ i, e ≤ i → i < nR → (rlAt rs i).1 ≠ (k : Int)) ∨ ∃ i, e ≤ i ∧ i < nR ∧ (e : Int) = (i : Int) ∧ (rlAt rs i).1 = (k : Int) ∧ ∀ j, e ≤ j → j < i → (rlAt rs j).1 ≠ (k : Int) from .inr ⟨e, Nat.le_refl _, by omega, rfl, hx, fun j h1 h2 => by omega⟩)
            rw [hx] at d0
            clear hx hee HZ
            go_wp2_with fail
            go_round
            case rel => exact ⟨e, by omega, by go_num, (e : Int), rfl, HZ2⟩
            case measure => simp [intOf]
          · have hxb : ((rlAt rs e).1 == (k : Int)) = false := by simpa using hx
            have HZ2 := Lib.hid (show (z = -1 ∧ ∀ i, e ≤ i → i < nR → (rlAt rs i).1 ≠ (k : Int)) ∨ ∃ i, e ≤ i ∧ i < nR ∧ z = (i : Int) ∧ (rlAt rs i).1 = (k : Int) ∧ ∀ j, e ≤ j → j < i → (rlAt rs j).1 ≠ (k : Int) from by
              rcases HZ.out with ⟨g1, g2⟩ | ⟨i, g1, g2, g3, g4, g5⟩
              · refine .inl ⟨g1, fun i h1 h2 => ?_⟩
                by_cases e9 : i = e
                · subst e9; exact hx
                · exact g2 i (by omega) h2
              · refine .inr ⟨i, by omega, g2, g3, g4, fun j h1 h2 => ?_⟩
                by_cases e9 : j = e
                · subst e9; exact hx
                · exact g5 j (by omega) h2)
            generalize (rlAt rs e).1 = x at d0 hxb
            clear hx hee HZ
            go_wp2_with fail
            go_round
            case rel => exact ⟨e, by omega, by go_num, z, rfl, HZ2⟩
            case measure => simp [intOf]
    · obtain rfl : k = N := by omega
      obtain ⟨A3, c3, rfl⟩ := own_formW HOW.out
      by_cases h1 : (k : Int) < n
      · have h2 : ¬ (k : Int) < 4096 := by have := HNN.out; omega
        go_wp2_with fail
        go_ret
        exact ⟨_, _, rfl, HOW.out, HBE.out⟩
      · go_wp2_with fail
        go_ret
        exact ⟨_, _, rfl, HOW.out, HBE.out⟩
end Go.Proofs.Ytbcabomblfehlab.By

namespace Go.Proofs.Ytbcabomblfehlab.By
open Go.RowKit
open Mem Gm Rf
set_option linter.unusedSimpArgs false
set_option linter.unusedVariables false

/-- Half way: those ahead are symbols, those behind places. -/
def hfV (rs : List Rl) (nR k p : Nat) : Int := if p < k then rfV rs nR p else fmT rs nR p
theorem take_set {α : Type} (l : List α) (N k : Nat) (u : α) : (l.set k u).take N = (l.take N).set k u := by
  apply List.ext_getElem?
  intro i
  by_cases h : i < N
  · rw [List.getElem?_take, if_pos h]
    by_cases e : k = i
    · subst e
      rw [List.getElem?_set, List.getElem?_set, List.length_take]
      have e9 : (k < min N l.length) = (k < l.length) := propext ⟨fun h1 => by omega, fun h1 => by omega⟩
      simp only [if_true, e9]
    · rw [List.getElem?_set_ne e, List.getElem?_set_ne e, List.getElem?_take, if_pos h]
  · rw [List.getElem?_take, if_neg h, List.getElem?_eq_none (by rw [List.length_set, List.length_take]; omega)]

set_option maxRecDepth 100000 in
set_option maxHeartbeats 2000000 in
theorem rrefs_any (w : World) (kd : Int) (AW AR : Option Addr) (nW cW nR cR : Nat) (rs : List Rl) (h : RlL w AR nR cR rs) (hR : nR ≤ 1000000) (hN : nW ≤ 4096) :
    Calls Try.prog 57 #[.agg #[.int .i64 kd, .slice AW nW cW, .slice AR nR cR]] w (IAns nW (rfL rs nR nW) w) := by
  obtain ⟨W1, hW1⟩ : ∃ W1, w.alloc (.cells #[.int .i64 kd, .slice AW nW cW, .slice AR nR cR] 49) = W1 := ⟨_, rfl⟩
  have hsz1 : w.heap.size < W1.heap.size := by rw [← hW1]; simp
  have hB0 : Below w.heap.size w W1 := by rw [← hW1]; exact alloc_ _ _
  have HB0 := Lib.hid hB0
  have HX := Lib.hid (show ∀ W, Below W1.heap.size W1 W → Blk W w.heap.size 49 #[.int .i64 kd, .slice AW nW cW, .slice AR nR cR] from fun W hb => (hb.block _ hsz1).trans (by rw [← hW1]; exact Blk.new w _ _))
  have HF := Lib.hid (rmarks_own W1 AR nR cR nW (nW : Int) rs (h.on hB0) hR (by omega))
  have HCR := Lib.hid (fun W (hb : Below w.heap.size w W) i (hi : i < nR) => (h.on hb).at_ hi)
  obtain ⟨c0, c1, c2⟩ := blk3 (HX.out W1 (Below.refl _ _))
  clear h hB0
  go_enter Try.func57, Try.ntmps57
  go_wp2_with fail
  clear hW1 c0 c1 c2
  refine HF.out.mono ?_
  rintro e w2 ⟨A2, cp, rfl, hown, hbel⟩
  have HE := Lib.hid hbel
  rcases hown.2 with ⟨e1, e2⟩ | ⟨g, cap, cur, hv, hg1, hg2, hcc, hcm, hcs, hct⟩
  · injection e1 with e3 e4 e5
    subst e3 e4 e5
    clear hown hbel e2
    go_wp2_with fail
    go_loopw [4] (fun i wr => i = .int .i64 0 ∧ wr = w2) (fun _ _ => 0)
    case atStart => exact ⟨rfl, rfl⟩
    case round =>
      obtain ⟨rfl, rfl⟩ := hrel
      go_wp2_with fail
      go_ret
      exact ⟨_, _, rfl, .nil, to_ HB0.out HE.out⟩
  · injection hv with e3 e4 e5
    subst e3 e5
    rw [Nat.mul_one] at hct hcs
    have HG1 := Lib.hid hg1
    have HCC := Lib.hid (show nW ≤ cp ∧ cp ≤ maxLen from ⟨hcc, hcm⟩)
    have HB2 := Lib.hid (show Blk w2 g 3 cur from hg2)
    have HT2 := Lib.hid (show cur.toList.take nW = ints ((List.range nW).map (hfV rs nR 0)) from by
      rw [hct]; unfold fmL; congr 2)
    have HS2 := Lib.hid hcs
    clear hown hbel hg1 hg2 hcc hcm hcs hct
    go_wp2_with fail
    go_loopw [4] (fun i wr => ∃ (k : Nat) (cur : Array Value), k ≤ nW ∧ i = .int .i64 (k : Int) ∧ Blk wr g 3 cur ∧ Below W1.heap.size W1 wr ∧ Hid (cur.size = cp) ∧ Hid (cur.toList.take nW = ints ((List.range nW).map (hfV rs nR k)))) (fun i _ => nW - (intOf i).toNat)
    case atStart => exact ⟨0, cur, Nat.zero_le _, rfl, HB2.out, HE.out, HS2, HT2⟩
    case round =>
      obtain ⟨k, cur, hk, rfl, hblk, hbel, HS, HT⟩ := hrel
      have HBK := Lib.hid hblk
      have HBE := Lib.hid hbel
      obtain ⟨c0, c1, c2⟩ := blk3 (HX.out wr hbel)
      clear hblk hbel
      by_cases hlt : k < nW
      · have hkI : (k : Int) < (nW : Int) := by omega
        have hk0 : 0 ≤ (k : Int) := by omega
        have hcell : wr.cell? ⟨g, k, none⟩ = some (.int .i64 (fmT rs nR k)) := by
          rw [HBK.out.cell, ← Array.getElem?_toList]
          have h9 : (cur.toList.take nW)[k]? = cur.toList[k]? := by rw [List.getElem?_take, if_pos hlt]
          rw [← h9, HT.out]
          unfold ints
          rw [List.getElem?_map, List.getElem?_map, List.getElem?_range hlt]
          unfold hfV; simp
        have hfr : wr.frozen? ⟨g, k, none⟩ = false := HBK.out.frozen k
        rcases fmT_min rs k nR with ⟨h1, _⟩ | ⟨i, hi, h2, _⟩
        · have HSm := Lib.hid (show (List.range nW).map (hfV rs nR (k + 1)) = (List.range nW).map (hfV rs nR k) from by
            refine List.map_congr_left fun p hp => ?_
            unfold hfV
            by_cases e : p = k
            · subst e; rw [if_pos (by omega), if_neg (by omega)]; unfold rfV; rw [if_pos h1, h1]
            · by_cases h : p < k
              · rw [if_pos h, if_pos (by omega)]
              · rw [if_neg h, if_neg (by omega)])
          rw [h1] at hcell
          clear h1
          go_wp2_with fail
          go_roundw
          case rel => exact ⟨k + 1, cur, by omega, by go_num, HBK.out, HBE.out, HS, Lib.hid (by rw [HSm.out]; exact HT.out)⟩
          case measure => simp [intOf]; omega
        · have hge : 0 ≤ (i : Int) := by omega
          have hiI : (i : Int) < (nR : Int) := by omega
          obtain ⟨ad, rfl, _, _, d1, _⟩ := HCR.out wr (to_ HB0.out HBE.out) i hi
          have HD1 := Lib.hid (show ∀ W, Below w.heap.size w W → W.cell? ⟨(ad.add (i * 3)).block, (ad.add (i * 3)).off + 1, none⟩ = some (.int .i64 (rlAt rs i).2.1) from fun W hb => by
            obtain ⟨a9, e9, _, _, d9, _⟩ := HCR.out W hb i hi
            injection e9 with e9; subst e9; exact d9)
          have HSm := Lib.hid (show ints ((List.range nW).map (hfV rs nR (k + 1))) = (ints ((List.range nW).map (hfV rs nR k))).set k (.int .i64 (rlAt rs i).2.1) from by
            unfold ints
            apply List.ext_getElem?
            intro p
            by_cases hp : p < nW
            · by_cases e : k = p
              · subst e
                rw [List.getElem?_set]
                first
                  | (simp [hp, hfV, rfV, h2]; done)
                  | (simp [hp, hfV, rfV, h2]; omega)
              · rw [List.getElem?_set_ne e, List.getElem?_map, List.getElem?_map, List.getElem?_map, List.getElem?_map, List.getElem?_range hp]
                simp only [Option.map_some]
                unfold hfV
                by_cases h : p < k
                · rw [if_pos h, if_pos (by omega)]
                · rw [if_neg h, if_neg (by omega)]
            · rw [List.getElem?_eq_none (by simp; omega), List.getElem?_eq_none (by simp; omega)])
          generalize (rlAt rs i).2.1 = x at d1 HSm HD1
          rw [h2] at hcell
          clear h2 hi
          have HBKD := Lib.hid (HBK.out.below (drew_below wr) HBK.out.lt)
          have HBED := Lib.hid (to_ HBE.out (drew_below wr))
          have hfrd : wr.drew.frozen? ⟨g, k, none⟩ = false := HBKD.out.frozen k
          have hcd : wr.drew.cell? ⟨g, k, none⟩ = some (.int .i64 (i : Int)) := hcell
          go_wp2_with fail
          refine wp_region_noPanic ?_
          refine wp_region_held_drew (S := fun W => W.cell? ⟨w.heap.size, 2, none⟩ = some (.slice (some ad) nR cR) ∧ W.cell? ⟨(ad.add (i * 3)).block, (ad.add (i * 3)).off + 1, none⟩ = some (.int .i64 x)) (by kernel_rfl) (⟨c2, d1⟩) (fun hHeld => ?_)
          refine wpAnyH_take (i := 0) rfl (by kernel_rfl) (by kernel_rfl) (by kernel_rfl) (fun _ _ _ h => h) (Or.inl ⟨by rfl, by intro W hSW; (try dsimp only at hSW); go_simp; try (with_reducible rfl)⟩) hHeld ?_
          try simp only [Act.put, List.getElem_toArray, List.getElem_cons_zero, List.getElem_cons_succ, List.setIfInBounds_toArray, List.set_cons_zero, List.set_cons_succ]
          refine wpAnyH_take (i := 1) rfl (by kernel_rfl) (by kernel_rfl) (by kernel_rfl) (fun _ _ _ h => h) (Or.inl ⟨by rfl, by intro W hSW; (try dsimp only at hSW); go_simp; try (with_reducible rfl)⟩) hHeld ?_
          try simp only [Act.put, List.getElem_toArray, List.getElem_cons_zero, List.getElem_cons_succ, List.setIfInBounds_toArray, List.set_cons_zero, List.set_cons_succ]
          refine wpAnyH_take (i := 2) rfl (by kernel_rfl) (by kernel_rfl) (by kernel_rfl) (fun _ _ _ h => h) (Or.inl ⟨by rfl, by intro W hSW; (try dsimp only at hSW); go_simp; try (with_reducible rfl)⟩) hHeld ?_
          try simp only [Act.put, List.getElem_toArray, List.getElem_cons_zero, List.getElem_cons_succ, List.setIfInBounds_toArray, List.set_cons_zero, List.set_cons_succ]
          refine wpAnyH_take (i := 4) rfl (by kernel_rfl) (by kernel_rfl) (by kernel_rfl) (fun _ _ _ h => h) (Or.inl ⟨by rfl, by intro W hSW; (try dsimp only at hSW); go_simp; try (with_reducible rfl)⟩) hHeld ?_
          try simp only [Act.put, List.getElem_toArray, List.getElem_cons_zero, List.getElem_cons_succ, List.setIfInBounds_toArray, List.set_cons_zero, List.set_cons_succ]
          refine wpAnyH_take (i := 5) rfl (by kernel_rfl) (by kernel_rfl) (by kernel_rfl) (fun _ _ _ h => h) (Or.inl ⟨by rfl, by intro W hSW; (try dsimp only at hSW); go_simp; try (with_reducible rfl)⟩) hHeld ?_
          try simp only [Act.put, List.getElem_toArray, List.getElem_cons_zero, List.getElem_cons_succ, List.setIfInBounds_toArray, List.set_cons_zero, List.set_cons_succ]
          refine wpAnyH_take (i := 3) rfl (by kernel_rfl) (by kernel_rfl) (by kernel_rfl) (fun _ _ _ h => h) (Or.inl ⟨by rfl, by intro W hSW; (try dsimp only at hSW); go_simp; try (with_reducible rfl)⟩) hHeld ?_
          try simp only [Act.put, List.getElem_toArray, List.getElem_cons_zero, List.getElem_cons_succ, List.setIfInBounds_toArray, List.set_cons_zero, List.set_cons_succ]
          refine wpAnyH_take (i := 6) rfl (by kernel_rfl) (by kernel_rfl) (by kernel_rfl) (fun _ _ _ h => h) (Or.inl ⟨by rfl, by intro W hSW; (try dsimp only at hSW); go_simp; try (with_reducible rfl)⟩) hHeld ?_
          try simp only [Act.put, List.getElem_toArray, List.getElem_cons_zero, List.getElem_cons_succ, List.setIfInBounds_toArray, List.set_cons_zero, List.set_cons_succ]
          refine wpAnyH_ready (rs := [7]) (by kernel_rfl) (by simp) ?_
          refine AllReadyH.cons rfl (fun K hK => ?_) AllReadyH.nil
          go_simp
          refine hK.out _ _ hHeld ?_
          clear hK K hHeld
          intro hHeld
          try simp only [Act.put, List.getElem_toArray, List.getElem_cons_zero, List.getElem_cons_succ, List.setIfInBounds_toArray, List.set_cons_zero, List.set_cons_succ]
          refine wpAnyH_take (i := 8) rfl (by kernel_rfl) (by kernel_rfl) (by kernel_rfl) (fun _ _ _ h => h) (Or.inl ⟨by rfl, by intro W hSW; (try dsimp only at hSW); go_simp; try (with_reducible rfl)⟩) hHeld ?_
          try simp only [Act.put, List.getElem_toArray, List.getElem_cons_zero, List.getElem_cons_succ, List.setIfInBounds_toArray, List.set_cons_zero, List.set_cons_succ]
          refine wpAnyH_take (i := 9) rfl (by kernel_rfl) (by kernel_rfl) (by kernel_rfl) (fun _ _ _ h => h) (Or.inl ⟨by rfl, by intro W hSW; (try dsimp only at hSW); go_simp; try (with_reducible rfl)⟩) hHeld ?_
          try simp only [Act.put, List.getElem_toArray, List.getElem_cons_zero, List.getElem_cons_succ, List.setIfInBounds_toArray, List.set_cons_zero, List.set_cons_succ]
          refine wpAnyH_take (i := 10) rfl (by kernel_rfl) (by kernel_rfl) (by kernel_rfl) (fun _ _ _ h => h) (Or.inl ⟨by rfl, by intro W hSW; (try dsimp only at hSW); go_simp; try (with_reducible rfl)⟩) hHeld ?_
          try simp only [Act.put, List.getElem_toArray, List.getElem_cons_zero, List.getElem_cons_succ, List.setIfInBounds_toArray, List.set_cons_zero, List.set_cons_succ]
          refine wpAnyH_take (i := 11) rfl (by kernel_rfl) (by kernel_rfl) (by kernel_rfl) (fun _ _ _ h => h) (Or.inl ⟨by rfl, by intro W hSW; (try dsimp only at hSW); go_simp; try (with_reducible rfl)⟩) hHeld ?_
          try simp only [Act.put, List.getElem_toArray, List.getElem_cons_zero, List.getElem_cons_succ, List.setIfInBounds_toArray, List.set_cons_zero, List.set_cons_succ]
          refine wpAnyH_ready (rs := [12]) (by kernel_rfl) (by simp) ?_
          refine AllReadyH.cons rfl (fun K hK => ?_) AllReadyH.nil
          go_simp
          refine hK.out _ _ ⟨(blk3 (HX.out _ (HBED.out.setCell (p := ⟨g, k, none⟩) HG1.out _))).2.2, HD1.out _ (to_ HB0.out (HBED.out.setCell (p := ⟨g, k, none⟩) HG1.out _))⟩ ?_
          clear hK K hHeld
          intro hHeld
          try simp only [Act.put, List.getElem_toArray, List.getElem_cons_zero, List.getElem_cons_succ, List.setIfInBounds_toArray, List.set_cons_zero, List.set_cons_succ]
          refine wpAnyH_done (by kernel_rfl) ?_ _
          refine NoPanic.normal ?_
          go_wp2_with fail
          go_roundw
          case rel =>
            refine ⟨k + 1, cur.setIfInBounds k (.int .i64 x), by omega, by go_num, HBKD.out.stored k _, HBED.out.setCell (p := ⟨g, k, none⟩) HG1.out _, Lib.hid (by rw [Array.size_setIfInBounds]; exact HS.out), Lib.hid ?_⟩
            rw [Array.toList_setIfInBounds, take_set, HT.out, HSm.out]
          case measure => simp [intOf]; omega
      · obtain rfl : k = nW := by omega
        go_wp2_with fail
        go_ret
        refine ⟨_, _, rfl, ?_, to_ HB0.out HBE.out⟩
        have h9 : (List.range k).map (hfV rs nR k) = rfL rs nR k := by
          unfold rfL
          refine List.map_congr_left fun p hp => ?_
          unfold hfV; rw [if_pos (List.mem_range.1 hp)]
        have hT := HT.out
        rw [h9] at hT
        refine SlV.of_own (w := wr) (base := W1.heap.size) (e := 3) ⟨by simp [ints, rfL], .inr ⟨g, cp, cur, rfl, HG1.out, HBK.out, HCC.out.1, HCC.out.2, by rw [Nat.mul_one]; exact HS.out, by rw [Nat.mul_one]; exact hT⟩⟩
end Go.Proofs.Ytbcabomblfehlab.By
