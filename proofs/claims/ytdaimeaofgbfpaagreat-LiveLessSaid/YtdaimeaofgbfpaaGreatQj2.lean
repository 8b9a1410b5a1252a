/-
 Ph2 Pi2 Qj2
-/
import Derived.Test.YtdaimeaofgbfpaaGreatZa2
import Derived.Test.YtdaimeaofgbfpaaGreatPf2
import Derived.Test.YtdaimeaofgbfpaaGreatPb2
import Derived.Laws.CopyRow
import Derived.Laws.CopyOwn
import Derived.WalkKit
import Derived.Test.YtdaimeaofgbfpaaGreatRows
import Derived.ProofKit
import Derived.WalkSpells
import Derived.WalkLawsBesides
import Derived.Lib.Hide
import Derived.Lib.OthersKept
import Derived.Laws.RangeAny
import Derived.LoopTactic
import Derived.Below
import Derived.Test.YtdaimeaofgbfpaaGreatQi2
import Derived.Test.YtdaimeaofgbfpaaGreatPe2
import Derived.Test.YtdaimeaofgbfpaaGreatPg2
set_option linter.unusedSimpArgs false
set_option linter.unusedVariables false
namespace Go.Proofs.YtdaimeaofgbfpaaGreat.By
open Go.RowKit
open Mem Gm Rf
def fmT (rs : List Rl) (k : Nat) (p : Nat) : Int := match (List.range k).find? (fun i => (rlAt rs i).1 == (p : Int)) with | some i => (i : Int) | none => -1
theorem fmT_next (rs : List Rl) (k p : Nat) : fmT rs (k + 1) p = if fmT rs k p = -1 ∧ (rlAt rs k).1 = (p : Int) then (k : Int) else fmT rs k p := by
 unfold fmT
 rw [List.range_succ, List.find?_append]
 cases h : (List.range k).find? (fun i => (rlAt rs i).1 == (p : Int)) with
 | none =>
  by_cases hk : (rlAt rs k).1 = (p : Int)
  ·simp [hk]
  ·simp [hk]
 | some i =>
  first
   | (simp; done)
   | (simp; intro hh; omega)
def fmL (rs : List Rl) (nR N : Nat) : List Int := (List.range N).map (fmT rs nR)
theorem fmL_next (rs : List Rl) (nR k : Nat) : fmL rs nR (k + 1) = fmL rs nR k ++ [fmT rs nR k] := by unfold fmL; rw [List.range_succ]; simp
def rfV (rs : List Rl) (nR p : Nat) : Int := if fmT rs nR p = -1 then -1 else (rlAt rs (fmT rs nR p).toNat).2.1
def rfL (rs : List Rl) (nR N : Nat) : List Int := (List.range N).map (rfV rs nR)
theorem fmT_min (rs : List Rl) (p : Nat) : ∀ k, (fmT rs k p = -1 ∧ ∀ i, i < k → (rlAt rs i).1 ≠ (p : Int)) ∨ ∃ i, i < k ∧ fmT rs k p = (i : Int) ∧ (rlAt rs i).1 = (p : Int) ∧ ∀ j, j < i → (rlAt rs j).1 ≠ (p : Int)
 | 0 => .inl ⟨rfl, fun i hi => by omega⟩
 | k + 1 => by
  rw [fmT_next]
  rcases fmT_min rs p k with ⟨h1, h2⟩ | ⟨i, h1, h2, h3, h4⟩
  ·by_cases hk : (rlAt rs k).1 = (p : Int)
   ·rw [if_pos ⟨h1, hk⟩]
    exact .inr ⟨k, by omega, rfl, hk, h2⟩
   ·rw [if_neg fun hh => hk hh.2]
    refine .inl ⟨h1, fun i hi => ?_⟩
    by_cases e : i = k
    ·subst e; exact hk
    ·exact h2 i (by omega)
  ·rw [if_neg fun hh => by have := hh.1; omega]
   exact .inr ⟨i, by omega, h2, h3, h4⟩
theorem fmT_is {rs : List Rl} {k p : Nat} {z : Int} (h : (z = -1 ∧ ∀ i, i < k → (rlAt rs i).1 ≠ (p : Int)) ∨ ∃ i, i < k ∧ z = (i : Int) ∧ (rlAt rs i).1 = (p : Int) ∧ ∀ j, j < i → (rlAt rs j).1 ≠ (p : Int)) : fmT rs k p = z := by
 rcases fmT_min rs p k with ⟨h1, h2⟩ | ⟨i, h1, h2, h3, h4⟩
 ·rcases h with ⟨rfl, _⟩ | ⟨j, g1, g2, g3, g4⟩
  ·exact h1
  ·exact absurd g3 (h2 j g1)
 ·rcases h with ⟨rfl, g2⟩ | ⟨j, g1, g2, g3, g4⟩
  ·exact absurd h3 (g2 i h1)
  ·rcases Nat.lt_trichotomy i j with hh | hh | hh
   ·exact absurd h3 (g4 i hh)
   ·subst hh; rw [h2, g2]
   ·exact absurd g3 (h4 j hh)
def OAns (L : Nat) (l : List Int) (w : World) (e : Ending) (w' : World) : Prop := ∃ A c, e = .returned (.slice A L c) ∧ w'.ownsRow w.heap.size 3 1 (.slice A L c) L (ints l) ∧ Below w.heap.size w w'
theorem news_aH (W : World) (x : Int) : ∀ j u, [Value.int .i64 x][j]? = some u → (W.alloc (.cells #[.int .i64 x] 3)).cell? ((⟨W.heap.size, 0, none⟩ : Addr).add j) = some u := fun j u hu => by
 rw [add_plain, Nat.zero_add, (Blk.new W _ _).cell]; simpa using hu
set_option maxRecDepth 100000 in
set_option maxHeartbeats 2000000 in
theorem rmarks_own (w : World) (AR : Option Addr) (nR cR N : Nat) (n : Int) (rs : List Rl) (h : RlL w AR nR cR rs) (hR : nR ≤ 1000000) (hN : (min (max n 0) 4096).toNat = N) :
  Calls Tryz.prog 123 #[.slice AR nR cR, .int .i64 n] w (OAns N (fmL rs nR N) w) := by
 obtain ⟨i0, hi, hz0, hz1, hz2⟩ := info_parts infoI
 have HR := Hd (fun W (hb : Below w.heap.size w W) i (hi : i < nR) => (h.on hb).at_ hi)
 have HNN := Hd hN
 have hNB : N ≤ 4096 := by omega
 clear h hN
 go_enter Tryz.func123, Tryz.ntmps123
 go_wp2_with fail
 go_loopw [5, 6] (fun v i wr => ∃ k : Nat, k ≤ N ∧ i = .int .i64 (k : Int) ∧ wr.ownsRow w.heap.size 3 1 v k (ints (fmL rs nR k)) ∧ Below w.heap.size w wr) (fun _ i _ => N - (intOf i).toNat)
 case atStart => exact ⟨0, Nat.zero_le _, rfl, World.ownsRow_nil _ _ _ _, Below.refl _ _⟩
 case round =>
  obtain ⟨k, hk, rfl, hown, hbel⟩ := hrel
  have HOW := Hd hown
  have HBE := Hd hbel
  clear hown hbel
  by_cases hlt : k < N
  ·have h1 : (k : Int) < n := by have := HNN.out; omega
   have h2 : (k : Int) < 4096 := by have := HNN.out; omega
   have HNX := Hd (fmL_next rs nR k)
   go_wp2_with fail
   obtain ⟨wq, hwq⟩ : ∃ wq, wq = wr := ⟨_, rfl⟩
   subst hwq
   go_loop [7, 8] (fun a q => ∃ d : Nat, d ≤ nR ∧ q = .int .i64 ((d : Int) - 1) ∧ ∃ z : Int, a = .int .i64 z ∧ Hid ((z = -1 ∧ ∀ i, d ≤ i → i < nR → (rlAt rs i).1 ≠ (k : Int)) ∨ ∃ i, d ≤ i ∧ i < nR ∧ z = (i : Int) ∧ (rlAt rs i).1 = (k : Int) ∧ ∀ j, d ≤ j → j < i → (rlAt rs j).1 ≠ (k : Int))) (fun _ q => (intOf q + 1).toNat)
   case atStart => exact ⟨nR, Nat.le_refl _, rfl, -1, rfl, Hd (.inl ⟨rfl, fun i h1 h2 => by omega⟩)⟩
   case round =>
    obtain ⟨d, hd, rfl, z, rfl, HZ⟩ := hrel
    cases d with
    | zero =>
     have HF := Hd (show fmT rs nR k = z from fmT_is (by
      rcases HZ.out with ⟨g1, g2⟩ | ⟨i, _, g2, g3, g4, g5⟩
      ·exact .inl ⟨g1, fun i hi => g2 i (Nat.zero_le _) hi⟩
      ·exact .inr ⟨i, g2, g3, g4, fun j hj => g5 j (Nat.zero_le _) hj⟩))
     rw [HF.out] at HNX
     have hneg : ¬ (0 : Int) ≤ ((0 : Nat) : Int) - 1 := by omega
     clear HZ HF
     go_wp2_with (at_builtin; go_loud (refine wpList_append_own _ rfl _ _ 44 rfl w.heap.size 3 i0 (.int .i64 0) 1 8 Tryz.underlying44 hi hz0 hz1 hz2 rfl (by decide) _ _ _ rfl (own_keep HOW.out fun gg _ hlt _ => Below.heap_alloc _ _ _ hlt) ⟨wq.heap.size, 0, none⟩ 1 1 [.int .i64 z] rfl rfl (news_aH wq z) (by simp [Value.oneCell']) (by unfold maxLen; omega) (by omega) (by have := HBE.out.size; simp; omega) ?_; intro v' w' h2 h3 h4; clear h4; have H2 := Hd h2; have H3 := Hd h3; clear h2 h3))
     go_roundw
     case rel =>
      have hb2 := to_ HBE.out (alloc_ wq (.cells #[.int .i64 z] 3))
      refine ⟨k + 1, by omega, by go_num, ?_, hb2.grown H3.out hb2.size fun r e => (HOW.out.lt r e).1⟩
      have h9 := H2.out
      rw [ints_app1] at h9
      rw [HNX.out]
      exact h9
     case measure => simp [intOf]; omega
    | succ e =>
     obtain ⟨ad, rfl, _, d0, _⟩ := HR.out wq HBE.out e (by omega)
     have heI : (e : Int) < (nR : Int) := by omega
     have he0 : 0 ≤ (e : Int) := by omega
     have hee : (((e + 1 : Nat) : Int) - 1) = (e : Int) := by omega
     rw [hee]
     by_cases hx : (rlAt rs e).1 = (k : Int)
     ·have HZ2 := Hd (show ((e : Int) = -1 ∧ ∀ i, e ≤ i → i < nR → (rlAt rs i).1 ≠ (k : Int)) ∨ ∃ i, e ≤ i ∧ i < nR ∧ (e : Int) = (i : Int) ∧ (rlAt rs i).1 = (k : Int) ∧ ∀ j, e ≤ j → j < i → (rlAt rs j).1 ≠ (k : Int) from .inr ⟨e, Nat.le_refl _, by omega, rfl, hx, fun j h1 h2 => by omega⟩)
      rw [hx] at d0
      clear hx hee HZ
      go_wp2_with fail
      go_round
      case rel => exact ⟨e, by omega, by go_num, (e : Int), rfl, HZ2⟩
      case measure => simp [intOf]
     ·have hxb : ((rlAt rs e).1 == (k : Int)) = false := by simpa using hx
      have HZ2 := Hd (show (z = -1 ∧ ∀ i, e ≤ i → i < nR → (rlAt rs i).1 ≠ (k : Int)) ∨ ∃ i, e ≤ i ∧ i < nR ∧ z = (i : Int) ∧ (rlAt rs i).1 = (k : Int) ∧ ∀ j, e ≤ j → j < i → (rlAt rs j).1 ≠ (k : Int) from by
       rcases HZ.out with ⟨g1, g2⟩ | ⟨i, g1, g2, g3, g4, g5⟩
       ·refine .inl ⟨g1, fun i h1 h2 => ?_⟩
        by_cases e9 : i = e
        ·subst e9; exact hx
        ·exact g2 i (by omega) h2
       ·refine .inr ⟨i, by omega, g2, g3, g4, fun j h1 h2 => ?_⟩
        by_cases e9 : j = e
        ·subst e9; exact hx
        ·exact g5 j (by omega) h2)
      generalize (rlAt rs e).1 = x at d0 hxb
      clear hx hee HZ
      go_wp2_with fail
      go_round
      case rel => exact ⟨e, by omega, by go_num, z, rfl, HZ2⟩
      case measure => simp [intOf]
  ·obtain rfl : k = N := by omega
   obtain ⟨A3, c3, rfl⟩ := own_formW HOW.out
   by_cases h1 : (k : Int) < n
   ·have h2 : ¬ (k : Int) < 4096 := by have := HNN.out; omega
    go_wp2_with fail
    go_ret
    exact ⟨_, _, rfl, HOW.out, HBE.out⟩
   ·go_wp2_with fail
    go_ret
    exact ⟨_, _, rfl, HOW.out, HBE.out⟩
def hfV (rs : List Rl) (nR k p : Nat) : Int := if p < k then rfV rs nR p else fmT rs nR p
theorem take_set {α : Type} (l : List α) (N k : Nat) (u : α) : (l.set k u).take N = (l.take N).set k u := by
 apply List.ext_getElem?
 intro i
 by_cases h : i < N
 ·rw [List.getElem?_take, if_pos h]
  by_cases e : k = i
  ·subst e
   rw [List.getElem?_set, List.getElem?_set, List.length_take]
   have e9 : (k < min N l.length) = (k < l.length) := propext ⟨fun h1 => by omega, fun h1 => by omega⟩
   simp only [if_true, e9]
  ·rw [List.getElem?_set_ne e, List.getElem?_set_ne e, List.getElem?_take, if_pos h]
 ·rw [List.getElem?_take, if_neg h, List.getElem?_eq_none (by rw [List.length_set, List.length_take]; omega)]
set_option maxRecDepth 100000 in
set_option maxHeartbeats 2000000 in
theorem rrefs_any (w : World) (kd : Int) (AW AR : Option Addr) (nW cW nR cR : Nat) (rs : List Rl) (h : RlL w AR nR cR rs) (hR : nR ≤ 1000000) (hN : nW ≤ 4096) :
  Calls Tryz.prog 81 #[.agg #[.int .i64 kd, .slice AW nW cW, .slice AR nR cR]] w (IAns nW (rfL rs nR nW) w) := by
 obtain ⟨W1, hW1⟩ : ∃ W1, w.alloc (.cells #[.int .i64 kd, .slice AW nW cW, .slice AR nR cR] 84) = W1 := ⟨_, rfl⟩
 have hsz1 : w.heap.size < W1.heap.size := by rw [← hW1]; simp
 have hB0 : Below w.heap.size w W1 := by rw [← hW1]; exact alloc_ _ _
 have HB0 := Hd hB0
 have HX := Hd (show ∀ W, Below W1.heap.size W1 W → Blk W w.heap.size 84 #[.int .i64 kd, .slice AW nW cW, .slice AR nR cR] from fun W hb => (hb.block _ hsz1).trans (by rw [← hW1]; exact Blk.new w _ _))
 have HF := Hd (rmarks_own W1 AR nR cR nW (nW : Int) rs (h.on hB0) hR (by omega))
 have HCR := Hd (fun W (hb : Below w.heap.size w W) i (hi : i < nR) => (h.on hb).at_ hi)
 obtain ⟨c0, c1, c2⟩ := blk3 (HX.out W1 (Below.refl _ _))
 clear h hB0
 go_enter Tryz.func81, Tryz.ntmps81
 go_wp2_with fail
 clear hW1 c0 c1 c2
 refine HF.out.mono ?_
 rintro e w2 ⟨A2, cp, rfl, hown, hbel⟩
 have HE := Hd hbel
 rcases hown.2 with ⟨e1, e2⟩ | ⟨g, cap, cur, hv, hg1, hg2, hcc, hcm, hcs, hct⟩
 ·injection e1 with e3 e4 e5
  subst e3 e4 e5
  clear hown hbel e2
  go_wp2_with fail
  go_loopw [4] (fun i wr => i = .int .i64 0 ∧ wr = w2) (fun _ _ => 0)
  case atStart => exact ⟨rfl, rfl⟩
  case round =>
   obtain ⟨rfl, rfl⟩ := hrel
   go_wp2_with fail
   go_ret
   exact ⟨_, _, rfl, .nil, to_ HB0.out HE.out⟩
 ·injection hv with e3 e4 e5
  subst e3 e5
  rw [Nat.mul_one] at hct hcs
  have HG1 := Hd hg1
  have HCC := Hd (show nW ≤ cp ∧ cp ≤ maxLen from ⟨hcc, hcm⟩)
  have HB2 := Hd (show Blk w2 g 3 cur from hg2)
  have HT2 := Hd (show cur.toList.take nW = ints ((List.range nW).map (hfV rs nR 0)) from by
   rw [hct]; unfold fmL; congr 2)
  have HS2 := Hd hcs
  clear hown hbel hg1 hg2 hcc hcm hcs hct
  go_wp2_with fail
  go_loopw [4] (fun i wr => ∃ (k : Nat) (cur : Array Value), k ≤ nW ∧ i = .int .i64 (k : Int) ∧ Blk wr g 3 cur ∧ Below W1.heap.size W1 wr ∧ Hid (cur.size = cp) ∧ Hid (cur.toList.take nW = ints ((List.range nW).map (hfV rs nR k)))) (fun i _ => nW - (intOf i).toNat)
  case atStart => exact ⟨0, cur, Nat.zero_le _, rfl, HB2.out, HE.out, HS2, HT2⟩
  case round =>
   obtain ⟨k, cur, hk, rfl, hblk, hbel, HS, HT⟩ := hrel
   have HBK := Hd hblk
   have HBE := Hd hbel
   obtain ⟨c0, c1, c2⟩ := blk3 (HX.out wr hbel)
   clear hblk hbel
   by_cases hlt : k < nW
   ·have hkI : (k : Int) < (nW : Int) := by omega
    have hk0 : 0 ≤ (k : Int) := by omega
    have hcell : wr.cell? ⟨g, k, none⟩ = some (.int .i64 (fmT rs nR k)) := by
     rw [HBK.out.cell, ← Array.getElem?_toList]
     have h9 : (cur.toList.take nW)[k]? = cur.toList[k]? := by rw [List.getElem?_take, if_pos hlt]
     rw [← h9, HT.out]
     unfold ints
     rw [List.getElem?_map, List.getElem?_map, List.getElem?_range hlt]
     unfold hfV; simp
    have hfr : wr.frozen? ⟨g, k, none⟩ = false := HBK.out.frozen k
    rcases fmT_min rs k nR with ⟨h1, _⟩ | ⟨i, hi, h2, _⟩
    ·have HSm := Hd (show (List.range nW).map (hfV rs nR (k + 1)) = (List.range nW).map (hfV rs nR k) from by
      refine List.map_congr_left fun p hp => ?_
      unfold hfV
      by_cases e : p = k
      ·subst e; rw [if_pos (by omega), if_neg (by omega)]; unfold rfV; rw [if_pos h1, h1]
      ·by_cases h : p < k
       ·rw [if_pos h, if_pos (by omega)]
       ·rw [if_neg h, if_neg (by omega)])
     rw [h1] at hcell
     clear h1
     go_wp2_with fail
     go_roundw
     case rel => exact ⟨k + 1, cur, by omega, by go_num, HBK.out, HBE.out, HS, Hd (by rw [HSm.out]; exact HT.out)⟩
     case measure => simp [intOf]; omega
    ·have hge : 0 ≤ (i : Int) := by omega
     have hiI : (i : Int) < (nR : Int) := by omega
     obtain ⟨ad, rfl, _, _, d1, _⟩ := HCR.out wr (to_ HB0.out HBE.out) i hi
     have HD1 := Hd (show ∀ W, Below w.heap.size w W → W.cell? ⟨(ad.add (i * 3)).block, (ad.add (i * 3)).off + 1, none⟩ = some (.int .i64 (rlAt rs i).2.1) from fun W hb => by
      obtain ⟨a9, e9, _, _, d9, _⟩ := HCR.out W hb i hi
      injection e9 with e9; subst e9; exact d9)
     have HSm := Hd (show ints ((List.range nW).map (hfV rs nR (k + 1))) = (ints ((List.range nW).map (hfV rs nR k))).set k (.int .i64 (rlAt rs i).2.1) from by
      unfold ints
      apply List.ext_getElem?
      intro p
      by_cases hp : p < nW
      ·by_cases e : k = p
       ·subst e
        rw [List.getElem?_set]
        first
         | (simp [hp, hfV, rfV, h2]; done)
         | (simp [hp, hfV, rfV, h2]; omega)
       ·rw [List.getElem?_set_ne e, List.getElem?_map, List.getElem?_map, List.getElem?_map, List.getElem?_map, List.getElem?_range hp]
        simp only [Option.map_some]
        unfold hfV
        by_cases h : p < k
        ·rw [if_pos h, if_pos (by omega)]
        ·rw [if_neg h, if_neg (by omega)]
      ·rw [List.getElem?_eq_none (by simp; omega), List.getElem?_eq_none (by simp; omega)])
     generalize (rlAt rs i).2.1 = x at d1 HSm HD1
     rw [h2] at hcell
     clear h2 hi
     have HBKD := Hd (HBK.out.below (drew_below wr) HBK.out.lt)
     have HBED := Hd (to_ HBE.out (drew_below wr))
     have hfrd : wr.drew.frozen? ⟨g, k, none⟩ = false := HBKD.out.frozen k
     have hcd : wr.drew.cell? ⟨g, k, none⟩ = some (.int .i64 (i : Int)) := hcell
     go_wp2_with fail
     refine wp_region_noPanic ?_
     refine wp_region_held_drew (S := fun W => W.cell? ⟨w.heap.size, 2, none⟩ = some (.slice (some ad) nR cR) ∧ W.cell? ⟨(ad.add (i * 3)).block, (ad.add (i * 3)).off + 1, none⟩ = some (.int .i64 x)) (by kernel_rfl) (⟨c2, d1⟩) (fun hHeld => ?_)
     refine tk7Z 0 1 2 4 5 3 6 hHeld ?_
     refine rd1Z 7 (fun K hK => ?_)
     go_simp
     refine hK.out _ _ hHeld ?_
     clear hK K hHeld
     intro hHeld
     try simp only [Act.put, nmZ]
     refine tk4Z 8 9 10 11 hHeld ?_
     refine rd1Z 12 (fun K hK => ?_)
     go_simp
     refine hK.out _ _ ⟨(blk3 (HX.out _ (HBED.out.setCell (p := ⟨g, k, none⟩) HG1.out _))).2.2, HD1.out _ (to_ HB0.out (HBED.out.setCell (p := ⟨g, k, none⟩) HG1.out _))⟩ ?_
     clear hK K hHeld
     intro hHeld
     try simp only [Act.put, nmZ]
     refine wpAnyH_done (by kernel_rfl) ?_ _
     refine NoPanic.normal ?_
     go_wp2_with fail
     go_roundw
     case rel =>
      refine ⟨k + 1, cur.setIfInBounds k (.int .i64 x), by omega, by go_num, HBKD.out.stored k _, HBED.out.setCell (p := ⟨g, k, none⟩) HG1.out _, Hd (by rw [Array.size_setIfInBounds]; exact HS.out), Hd ?_⟩
      rw [Array.toList_setIfInBounds, take_set, HT.out, HSm.out]
     case measure => simp [intOf]; omega
   ·obtain rfl : k = nW := by omega
    go_wp2_with fail
    go_ret
    refine ⟨_, _, rfl, ?_, to_ HB0.out HBE.out⟩
    have h9 : (List.range k).map (hfV rs nR k) = rfL rs nR k := by
     unfold rfL
     refine List.map_congr_left fun p hp => ?_
     unfold hfV; rw [if_pos (List.mem_range.1 hp)]
    have hT := HT.out
    rw [h9] at hT
    refine SlV.of_own (w := wr) (base := W1.heap.size) (e := 3) ⟨by simp [ints, rfL], .inr ⟨g, cp, cur, rfl, HG1.out, HBK.out, HCC.out.1, HCC.out.2, by rw [Nat.mul_one]; exact HS.out, by rw [Nat.mul_one]; exact hT⟩⟩
end Go.Proofs.YtdaimeaofgbfpaaGreat.By
namespace Go.Proofs.YtdaimeaofgbfpaaGreat.Nam
open Go.RowKit
def digR (c : Int) : Bool := decide (48 ≤ c ∧ c ≤ 57)
def mayR (c : Int) : Bool := decide ((97 ≤ c ∧ c ≤ 122) ∨ (48 ≤ c ∧ c ≤ 57) ∨ c = 95 ∨ c = 46)
def okAt (j : Nat) (x : UInt8) : Bool := mayR x.toNat && !(decide (j = 0) && digR x.toNat)
def spelt (l : List UInt8) : Bool := decide (l ≠ [] ∧ ∀ j (h : j < l.length), okAt j l[j] = true)
def checkV (l : List UInt8) : Int := if 24 < l.length then 6 else if spelt l then 0 else 7
theorem not_spelt {l : List UInt8} {j : Nat} (h : j < l.length) (hn : okAt j l[j] = false) : spelt l = false := by
 unfold spelt
 rw [decide_eq_false_iff_not]
 intro hh
 have := hh.2 j h
 rw [hn] at this
 cases this
theorem is_spelt {l : List UInt8} (h : ∀ j (h : j < l.length), okAt j l[j] = true) : spelt l = !l.isEmpty := by
 unfold spelt
 cases l with
 | nil => simp
 | cons x l => simp; exact fun j hj => h j (by simpa using hj)
end Go.Proofs.YtdaimeaofgbfpaaGreat.Nam
namespace Go.Proofs.YtdaimeaofgbfpaaGreat.Nq
open Go.RowKit
open Nam
theorem ret_bool {a b : Bool} (h : a = b) : Ending.returned (.bool a) = .returned (.bool b) := by rw [h]
theorem may_is (c : Int) (first b : Bool) (h0 : 0 ≤ c ∧ c < 256) (h : (mayR c && !(first && digR c)) = b) (w : World) : Calls Tryz.prog 153 #[.int .u8 c, .bool first] w fun e w' => e = .returned (.bool b) ∧ w = w' := by
 have hb : (97 ≤ c ∧ c ≤ 122 ∧ b = true) ∨ ((c == 95) = true ∧ c < 97 ∧ b = true) ∨ ((c == 95) = false ∧ (c == 46) = true ∧ c < 97 ∧ b = true)
   ∨ ((c == 95) = false ∧ (c == 46) = false ∧ 48 ≤ c ∧ c ≤ 57 ∧ c < 97 ∧ b = !first) ∨ ((c == 95) = false ∧ (c == 46) = false ∧ c < 48 ∧ c < 97 ∧ b = false) ∨ ((c == 95) = false ∧ (c == 46) = false ∧ 57 < c ∧ c < 97 ∧ b = false) ∨ ((c == 95) = false ∧ (c == 46) = false ∧ 122 < c ∧ b = false) := by
  subst h; unfold mayR digR; cases first <;> simp <;> omega
 clear h
 rcases hb with ⟨h1, h2, rfl⟩ | ⟨h1, h2, rfl⟩ | ⟨h1, h2, h3, rfl⟩ | ⟨h1, h2, h3, h4, h5, rfl⟩ | ⟨h1, h2, h3, h4, rfl⟩ | ⟨h1, h2, h3, h4, rfl⟩ | ⟨h1, h2, h3, rfl⟩
 all_goals
  cases first
  all_goals
   go_enter Tryz.func153, Tryz.ntmps153
   go_wp2
   all_goals go_ret
   all_goals exact ⟨ret_bool (by first | rfl | (simp; omega)), rfl⟩
def codeV (l : List UInt8) : Int := if spelt l then 0 else 7
theorem ret_i64 {a b : Int} (h : a = b) : Ending.returned (.int .i64 a) = .returned (.int .i64 b) := by rw [h]
set_option maxHeartbeats 2000000 in
theorem nmCheck_any (s : ByteArray) (w : World) (hs : s.size ≤ 1000) :
  Calls Tryz.prog 116 #[.string s] w fun e w' => e = .returned (.int .i64 (checkV s.data.toList)) ∧ ∃ n, w' = w.drewN n := by
 by_cases h : 24 < s.size
 ·have hd : decide (24 < (s.size : Int)) = true := by simp; omega
  have HE := Hd (show checkV s.data.toList = 6 by unfold checkV; rw [if_pos (by simpa using h)])
  rw [HE.out]
  clear hs h
  go_enter Tryz.func116, Tryz.ntmps116
  go_wp2
  go_ret
  exact ⟨rfl, 0, rfl⟩
 ·have hd : decide (24 < (s.size : Int)) = false := by simp; omega
  have hE : checkV s.data.toList = codeV s.data.toList := by unfold checkV codeV; rw [if_neg (by simpa using h)]
  rw [hE]
  have hs2 : s.size ≤ 24 := by omega
  clear hs h hE
  by_cases hemp : s.data.toList = []
  ·have he : s.toList = [] := by rw [ByteArray.toList_eq]; exact hemp
   have HF := Hd (show codeV s.data.toList = 7 by rw [hemp]; rfl)
   rw [HF.out]
   clear hemp
   go_enter Tryz.func116, Tryz.ntmps116
   go_wp2
   go_ret
   exact ⟨rfl, 0, rfl⟩
  ·have he : s.toList.isEmpty = false := by
    rw [ByteArray.toList_eq]
    cases hh : s.data.toList with
    | nil => exact absurd hh hemp
    | cons _ _ => rfl
   have he2 : s.toList ≠ [] := by
    rw [ByteArray.toList_eq]; exact hemp
   have HNE := Hd hemp
   clear hemp
   go_enter Tryz.func116, Tryz.ntmps116
   go_wp2_with fail
   go_loop [3] (fun i => ∃ k : Nat, k ≤ s.size ∧ i = .int .i64 k ∧ Hid (∀ j (h : j < s.data.toList.length), j < k → okAt j s.data.toList[j] = true)) (fun i => s.size - (intOf i).toNat)
   case atStart => exact ⟨0, by omega, rfl, Hd (fun j _ h => by omega)⟩
   case round =>
    obtain ⟨k, hk, rfl, HO⟩ := hrel
    by_cases hlt : k < s.size
    ·have hpl : k < s.data.toList.length := by simpa using hlt
     have HG : Hid (s.data.toList[k] = s[k]'hlt) := Hd (by simp [ByteArray.getElem_eq_getElem_data])
     have hb := (s[k]'hlt).toNat_lt
     have hfirst : ∃ first : Bool, first = decide (k = 0) := ⟨_, rfl⟩
     obtain ⟨first, hfirst⟩ := hfirst
     have HM := Hd (may_is ((s[k]'hlt).toNat : Int) first (okAt k (s[k]'hlt)) (by omega) (by rw [hfirst]; rfl))
     have HNO := Hd (show okAt k (s[k]'hlt) = false → spelt s.data.toList = false from fun hn => not_spelt hpl (by rw [HG.out]; exact hn))
     have HYES := Hd (show okAt k (s[k]'hlt) = true → ∀ j (h : j < s.data.toList.length), j < k + 1 → okAt j s.data.toList[j] = true from fun hy j hj hjk => by
      by_cases hjp : j = k
      ·subst hjp; rw [HG.out]; exact hy
      ·exact HO.out j hj (by omega))
     have hz : (k = 0 ∧ first = true) ∨ (((k : Int) == 0) = false ∧ first = false) := by
      by_cases h0 : k = 0
      ·exact .inl ⟨h0, by rw [hfirst]; simp [h0]⟩
      ·exact .inr ⟨by simp; omega, by rw [hfirst]; simp [h0]⟩
     clear hfirst HO hpl HG
     generalize okAt k (s[k]'hlt) = ok at HM HNO HYES
     rcases hz with ⟨rfl, rfl⟩ | ⟨hz, rfl⟩
     all_goals
      cases ok
      ·have HF := Hd (HNO.out rfl)
       go_wp2_with (go_at_call 153; refine (HM.out _).mono ?_; rintro e w' ⟨rfl, rfl⟩)
       go_ret
       exact ⟨ret_i64 (by unfold codeV; rw [HF.out]; rfl), 0, rfl⟩
      ·have HO2 := Hd (HYES.out rfl)
       go_wp2_with (go_at_call 153; refine (HM.out _).mono ?_; rintro e w' ⟨rfl, rfl⟩)
       go_round
       case rel => exact ⟨_, by omega, by go_num, HO2⟩
       case measure => simp [intOf]; omega
    ·have HF := Hd (is_spelt (l := s.data.toList) (fun j hj => HO.out j hj (by simp at hj; omega)))
     have HE : Hid (s.data.toList.isEmpty = false) := Hd (by
      cases hh : s.data.toList with
      | nil => exact absurd hh HNE.out
      | cons _ _ => rfl)
     clear HO
     go_wp2
     go_ret
     exact ⟨ret_i64 (by unfold codeV; rw [HF.out, HE.out]; rfl), 0, rfl⟩
end Go.Proofs.YtdaimeaofgbfpaaGreat.Nq
namespace Go.Proofs.YtdaimeaofgbfpaaGreat.Bo
open Go.RowKit Go.Maps
open Mem Rf
structure FnOk (w : World) (F : Fc) (x : By.Fn) : Prop where
 fw : By.FnW w F.kinds.1 F.kinds.2.1 F.kinds.2.2 F.lines.1 F.lines.2.1 F.lines.2.2 F.code.1 F.code.2.1 F.code.2.2 F.rel.1 F.rel.2.1 F.rel.2.2 x
 hk : x.k = F.cl
 hpd : x.pd = F.pad
 hns : x.ns = F.no
 hf : x.f = F.f
 ht : x.t = F.t
 few : F.kinds.2.1 ≤ 100 ∧ F.lines.2.1 ≤ 100 ∧ F.code.2.1 ≤ 100 ∧ F.rel.2.1 ≤ 100
 bd : (∀ z ∈ x.ks, -9223372036854775808 ≤ z ∧ z ≤ 9223372036854775807) ∧ ∀ k, k < x.cs.length → -9223372036854775808 ≤ (By.inAt x.cs k).1 ∧ (By.inAt x.cs k).1 ≤ 9223372036854775807
structure DtOk (w : World) (D : Dc) (ws : List Int) (rs : List By.Rl) : Prop where
 hw : By.IW w (.slice D.words.1 D.words.2.1 D.words.2.2) ws
 hl : ws.length = D.words.2.1
 hr : By.RlL w D.rel.1 D.rel.2.1 D.rel.2.2 rs
 few : D.words.2.1 ≤ 100 ∧ D.rel.2.1 ≤ 100
 bd : -9223372036854775808 ≤ D.kd ∧ D.kd ≤ 9223372036854775807
theorem FnOk.on {w w' : World} {F : Fc} {x : By.Fn} (h : FnOk w F x) (hb : Below w.heap.size w w') : FnOk w' F x := ⟨h.fw.on hb, h.hk, h.hpd, h.hns, h.hf, h.ht, h.few, h.bd⟩
theorem DtOk.on {w w' : World} {D : Dc} {ws : List Int} {rs : List By.Rl} (h : DtOk w D ws rs) (hb : Below w.heap.size w w') : DtOk w' D ws rs := ⟨h.hw.on hb, h.hl, h.hr.on hb, h.few, h.bd⟩
def neV (s : ByteArray) : Int := Nam.checkV s.data.toList
noncomputable def vfV (x : By.Fn) (l : List Sy) : Int := (By.veF x l).1
def rfV (F : Fc) (x : By.Fn) : Int := By.ckV F.f F.t (By.pnT (By.pdO F.code.2.1 (fun i => (By.inAt x.cs i).1) fun i => (By.inAt x.cs i).2.2.2.2) F.code.2.1)
def deV (D : Dc) (ws : List Int) (rs : List By.Rl) (o : Oj) : Int := By.chkD D.kd ws o.n rs o.l
theorem name_is (s : ByteArray) (hs : s.size ≤ 1000) (w : World) : Calls Tryz.prog 116 #[.string s] w fun e w' => e = .returned (.int .i64 (neV s)) ∧ Below w.heap.size w w' :=
 (Nq.nmCheck_any s w hs).mono fun e w' h => by
  obtain ⟨h1, n, rfl⟩ := h
  exact ⟨h1, below_drewN (Below.refl _ _) n⟩
theorem is_is (n : Int) (w : World) : Calls Tryz.prog 117 #[.int .i64 n] w fun e w' => e = .returned (.bool (Si.isC n)) ∧ Below w.heap.size w w' :=
 (Si.ris_any n w).mono fun e w' h => ⟨h.1, by rw [← h.2]; exact Below.refl _ _⟩
theorem text_is (n : Int) (hn : -9223372036854775808 ≤ n ∧ n ≤ 9223372036854775807) (w : World) : Calls Tryz.prog 118 #[.int .i64 n] w fun e w' => (∃ t, e = .returned (.string t) ∧ (ByteArray.toList t).isEmpty = !Si.kindB n) ∧ Below w.heap.size w w' :=
 (Si.rtext_any n hn.1 hn.2 w).mono fun e w' h => ⟨⟨_, h.1, By.text_kind n⟩, h.2⟩
theorem fn_is {w : World} {F : Fc} {x : By.Fn} (h : FnOk w F x) {A : Option Addr} {n c : Nat} {l : List Sy} (hs : SyL w A n c l) (hb : ∀ k, -9223372036854775808 ≤ (syAt l k).2.2.2.1 ∧ (syAt l k).2.2.2.1 ≤ 9223372036854775807) :
  Calls Tryz.prog 121 #[.agg (encFc F).toArray, .slice A n c] w fun e w' => (∃ y, e = .returned (.tuple #[.int .i64 (vfV x l), .int .i64 y])) ∧ Below w.heap.size w w' := by
 have h9 := By.dch_any w _ _ _ _ _ _ _ _ _ _ _ _ x h.fw (by have := h.few; omega) A n c l hs hb h.bd
 rw [h.hk, h.hpd, h.hns, h.hf, h.ht] at h9
 exact h9.mono fun e w' hh => ⟨⟨_, hh.1⟩, hh.2⟩
theorem sym_is {w : World} {F : Fc} {x : By.Fn} (h : FnOk w F x) (i : Int) :
  Calls Tryz.prog 78 #[.agg (encFc F).toArray, .int .i64 i] w fun e w' => e = .returned (.int .i64 (By.veS x i)) ∧ Below w.heap.size w w' := by
 have h9 := By.dsym_any w _ _ _ _ _ _ _ _ _ _ _ _ x h.fw (by have := h.few; omega) i
 rw [h.hk, h.hpd, h.hns, h.hf, h.ht] at h9
 exact h9
theorem cw_of {w : World} {A : Option Addr} {n c : Nat} {cs : List By.In5} (h : By.InL w A n c cs) : By.CW w A n c (fun i => (By.inAt cs i).1) fun i => (By.inAt cs i).2.2.2.2 := by
 refine ⟨h.2.1, h.2.2.1, fun i hi => ?_⟩
 have hl : i < cs.length := by rw [h.1]; exact hi
 obtain ⟨ad, e, hb, hc⟩ := h.2.2.2.2 i (By.inAt cs i) (by unfold By.inAt; rw [List.getD_eq_getElem?_getD, List.getElem?_eq_getElem hl]; rfl)
 exact ⟨ad, _, _, _, e, hb, hc⟩
theorem rng_is {w : World} {F : Fc} {x : By.Fn} (h : FnOk w F x) :
  Calls Tryz.prog 122 #[.agg (encFc F).toArray] w fun e w' => e = .returned (.int .i64 (rfV F x)) ∧ Below w.heap.size w w' :=
 By.rngCheck_any w _ _ _ _ _ _ F.f F.t _ _ _ _ _ _ (cw_of h.fw.hc) (by have := h.few; omega) rfl
theorem dat_is {w : World} {D : Dc} {ws : List Int} {rs : List By.Rl} (h : DtOk w D ws rs) {o : Oj} (hs : SyL w o.A o.n o.c o.l) :
  Calls Tryz.prog 120 #[.agg (encDc D).toArray, .slice o.A o.n o.c] w fun e w' => e = .returned (.int .i64 (deV D ws rs o)) ∧ Below w.heap.size w w' :=
 By.rcheckD_any w D.kd _ _ _ _ _ _ _ _ _ ws rs o.l h.bd.1 h.bd.2 h.hw h.hl (by have := h.few; omega) h.hr (by have := h.few; omega) hs
theorem il_of {w : World} {A : Option Addr} {c : Nat} {l : List Int} {n : Nat} (h : By.IW w (.slice A n c) l) (hl : l.length = n) : IL w A n c l := by
 rcases h.inv with ⟨rfl, h1, rfl, _⟩ | ⟨ad, rfl, h1, h2, h3, hr⟩
 ·subst h1
  have : l = [] := List.eq_nil_of_length_eq_zero hl
  subst this
  exact Wd.nil
 ·refine ⟨hl, by omega, ⟨by assumption, ⟨(fun e => by cases e), fun i x hi => ?_⟩⟩⟩
  have hil : i < n := by have := (List.getElem?_eq_some_iff.1 hi).1; omega
  obtain ⟨ad', e, hb, hc⟩ := By.iw_cell h hl hil
  refine ⟨ad', e, hb, fun j u hu => ?_⟩
  obtain rfl : j = 0 := by have := (List.getElem?_eq_some_iff.1 hu).1; simpa [encI] using this
  rw [Nat.mul_one, show (ad'.add i).add 0 = ad'.add i from by unfold Addr.add; simp, hc, ← hu]
  have : By.el l i = x := by unfold By.el; rw [List.getD_eq_getElem?_getD, hi]; rfl
  rw [this]; rfl
theorem refs_is {w : World} {D : Dc} {ws : List Int} {rs : List By.Rl} (h : DtOk w D ws rs) :
  Calls Tryz.prog 81 #[.agg (encDc D).toArray] w fun e w' => ∃ Ai ci, e = .returned (.slice Ai (By.rfL rs D.rel.2.1 D.words.2.1).length ci) ∧ IL w' Ai (By.rfL rs D.rel.2.1 D.words.2.1).length ci (By.rfL rs D.rel.2.1 D.words.2.1) ∧ Below w.heap.size w w' := by
 have hl : (By.rfL rs D.rel.2.1 D.words.2.1).length = D.words.2.1 := by simp [By.rfL]
 rw [hl]
 exact (By.rrefs_any w D.kd _ _ _ _ _ _ rs h.hr (by have := h.few; omega) (by have := h.few; omega)).mono fun e w' hh => by
  obtain ⟨A, c, h1, h2, h3⟩ := hh
  exact ⟨A, c, h1, il_of h2 hl, h3⟩
theorem sym_ok {x : By.Fn} {l : List Sy} (h : vfV x l = 0) {j : Nat} (hj : j < x.cs.length) : By.veS x j < 0 ∨ (0 ≤ By.veS x j ∧ (By.veS x j).toNat < l.length) := by
 have hi : By.veI x l j = 0 := by
  unfold vfV By.veF at h
  by_cases hc : By.chF x = 0
  ·rw [if_pos hc] at h
   by_cases h0 : By.veI x l j = 0
   ·exact h0
   ·exfalso
    have key : ∀ n, (By.veL x l n).1 = 0 → ∀ m, m < n → By.veI x l m = 0 := by
     intro n
     induction n with
     | zero => intro _ m hm; omega
     | succ n ih =>
      intro hn m hm
      have h1 : (By.veL x l n).1 = 0 := by
       by_cases h2 : (By.veL x l n).1 = 0
       ·exact h2
       ·rw [By.veL_fix h2 (n + 1) (by omega)] at hn; exact absurd hn h2
      rcases Nat.lt_succ_iff_lt_or_eq.1 hm with h2 | h2
      ·exact ih h1 m h2
      ·subst h2
       by_cases h3 : By.veI x l m = 0
       ·exact h3
       ·have h4 := (By.veL_next h1).2 h3 (m + 1) (Nat.le_refl _)
        rw [h4] at hn; exact absurd hn h3
    exact h0 (key _ h j hj)
  ·rw [if_neg hc] at h; exact absurd h hc
 unfold By.veI at hi
 rw [if_neg (by unfold By.inL; simp; omega)] at hi
 unfold By.veS
 cases hr : By.refA x.rs j with
 | none => left; decide
 | some r =>
  right
  dsimp only
  by_cases hq : (By.ndV (By.inAt x.cs ((j : Int)).toNat).1 ≠ 0 ∧ By.symA x.rs l j = none) ∨ ((By.refA x.rs j).isSome = true ∧ By.ndV (By.inAt x.cs ((j : Int)).toNat).1 = 0)
  ·rw [if_pos hq] at hi; exact absurd hi (by decide)
  ·have h1 : By.ndV (By.inAt x.cs ((j : Int)).toNat).1 ≠ 0 := fun e => hq (.inr ⟨by rw [hr]; rfl, e⟩)
   have h2 : By.symA x.rs l j ≠ none := fun e => hq (.inl ⟨h1, e⟩)
   unfold By.symA at h2
   rw [hr] at h2
   dsimp only at h2
   by_cases h3 : By.inL r.2.1 l.length = true
   ·unfold By.inL at h3
    have := of_decide_eq_true h3
    omega
   ·rw [if_neg h3] at h2; exact absurd rfl h2
theorem firF_zero {f : Nat → Int} : ∀ (m k : Nat), By.firF f k m = 0 → ∀ j, k ≤ j → j < k + m → f j = 0
 | 0, k, _, j, h1, h2 => by omega
 | m + 1, k, h, j, h1, h2 => by
  unfold By.firF at h
  by_cases h0 : f k = 0
  ·rw [if_neg (by simpa using h0)] at h
   by_cases he : j = k
   ·subst he; exact h0
   ·exact firF_zero m (k + 1) h j (by omega) (by omega)
  ·rw [if_pos h0] at h; exact absurd h h0
theorem ref_ok {D : Dc} {ws : List Int} {rs : List By.Rl} {o : Oj} (hr : rs.length = D.rel.2.1) (h : deV D ws rs o = 0) (N : Nat) : ∀ z ∈ By.rfL rs D.rel.2.1 N, z < 0 ∨ (0 ≤ z ∧ z.toNat < o.n) := by
 intro z hz
 unfold By.rfL at hz
 obtain ⟨p, hp, rfl⟩ := List.mem_map.1 hz
 unfold By.rfV
 rcases By.fmT_min rs p D.rel.2.1 with ⟨h1, _⟩ | ⟨i, h1, h2, h3, _⟩
 ·rw [if_pos h1]; left; decide
 ·rw [if_neg (by rw [h2]; omega), h2, Int.toNat_natCast]
  right
  unfold deV By.chkD at h
  have hf : By.firF (By.fE D.kd ws.length o.n rs o.l) 0 rs.length = 0 := by
   split at h
   ·exact absurd h (by decide)
   ·split at h
    ·exact absurd h (by decide)
    ·split at h
     ·exact absurd h (by decide)
     ·exact h
  have hE := firF_zero _ _ hf i (Nat.zero_le _) (by omega)
  unfold By.fE at hE
  have h4 : By.c4V o.n rs i = false := by
   cases hc : By.c4V o.n rs i with
   | false => rfl
   | true => rw [hc] at hE; simp at hE
  unfold By.c4V at h4
  simp at h4
  omega
structure OjsW (w : World) (A : Option Addr) (n c : Nat) (os : List Oj) (xs : Nat → Nat → By.Fn) (ws : Nat → Nat → List Int) (rs : Nat → Nat → List By.Rl) : Prop where
 mem : OjsL w A n c os
 few : n ≤ 9 ∧ ∀ i, i < n → (ojAt os i).n ≤ 60 ∧ (ojAt os i).fn ≤ 20 ∧ (ojAt os i).dn ≤ 20
 names : ∀ i, i < n → ∀ k, k < (ojAt os i).n → (syAt (ojAt os i).l k).1.size ≤ 300
 kinds : ∀ i, i < n → ∀ k, -9223372036854775808 ≤ (syAt (ojAt os i).l k).2.2.2.1 ∧ (syAt (ojAt os i).l k).2.2.2.1 ≤ 9223372036854775807
 fns : ∀ i, i < n → ∀ k, k < (ojAt os i).fn → FnOk w (fcAt (ojAt os i).fl k) (xs i k)
 dats : ∀ i, i < n → ∀ k, k < (ojAt os i).dn → DtOk w (dcAt (ojAt os i).dl k) (ws i k) (rs i k)
section
variable {w w' : World} {A : Option Addr} {n c : Nat} {os : List Oj} {xs : Nat → Nat → By.Fn} {ws : Nat → Nat → List Int} {rs : Nat → Nat → List By.Rl}
theorem OjsW.on (h : OjsW w A n c os xs ws rs) (hb : Below w.heap.size w w') : OjsW w' A n c os xs ws rs := ⟨h.mem.on hb, h.few, h.names, h.kinds, fun i hi k hk => (h.fns i hi k hk).on hb, fun i hi k hk => (h.dats i hi k hk).on hb⟩
noncomputable def vfO (os : List Oj) (xs : Nat → Nat → By.Fn) (i k : Nat) : Int := vfV (xs i k) (ojAt os i).l
def rfO (os : List Oj) (xs : Nat → Nat → By.Fn) (i k : Nat) : Int := rfV (fcAt (ojAt os i).fl k) (xs i k)
def deO (os : List Oj) (ws : Nat → Nat → List Int) (rs : Nat → Nat → List By.Rl) (i k : Nat) : Int := deV (dcAt (ojAt os i).dl k) (ws i k) (rs i k) (ojAt os i)
def svO (xs : Nat → Nat → By.Fn) (i k j : Nat) : Int := By.veS (xs i k) j
def dvO (os : List Oj) (rs : Nat → Nat → List By.Rl) (i k : Nat) : List Int := By.rfL (rs i k) (dcAt (ojAt os i).dl k).rel.2.1 (dcAt (ojAt os i).dl k).words.2.1
theorem OjsW.bx (h : OjsW w A n c os xs ws rs) : Bx w A n c os neV Si.isC Si.kindB (vfO os xs) (rfO os xs) (deO os ws rs) (svO xs) (dvO os rs) where
 mem := h.mem
 few := h.few
 obj := fun i hi => {
  mem := h.mem.each i hi
  few := by have := h.few.2 i hi; omega
  name := fun W hW k hk => name_is _ (by have := h.names i hi k hk; omega) W
  is := fun W hW x => is_is x W
  text := fun W hW k hk => text_is _ (h.kinds i hi k) W
  fn := fun W hW j hj => fn_is ((h.fns i hi j hj).on hW) ((h.mem.each i hi).on hW).sy (h.kinds i hi)
  rng := fun W hW j hj => rng_is ((h.fns i hi j hj).on hW)
  dat := fun W hW j hj => dat_is ((h.dats i hi j hj).on hW) ((h.mem.each i hi).on hW).sy }
 code := fun i hi k hk => by have := (h.fns i hi k hk).few; omega
 words := fun i hi k hk => by unfold dvO By.rfL; rw [List.length_map, List.length_range]; have := (h.dats i hi k hk).few; omega
 sym := fun W hW i hi k hk j => sym_is ((h.fns i hi k hk).on hW) j
 refs := fun W hW i hi k hk => refs_is ((h.dats i hi k hk).on hW)
 svok := fun i hi k hk hv j hj => by
  have h9 := sym_ok (x := xs i k) (l := (ojAt os i).l) hv (j := j) (by rw [(h.fns i hi k hk).fw.hc.1]; exact hj)
  rw [(h.mem.each i hi).sy.1] at h9
  exact h9
 dvok := fun i hi k hk hv => ref_ok (h.dats i hi k hk).hr.1 hv _
theorem bind_doc (h : OjsW w A n c os xs ws rs) (nm : ByteArray) :
  Calls Tryz.prog 11 #[.slice A n c, .string nm] w (BAns w os n nm (svO xs) (dvO os rs) (bindV os n (ckO os neV Si.isC Si.kindB (vfO os xs) (rfO os xs) (deO os ws rs)) nm)) := bind_walk w A n c os _ _ _ _ _ _ _ _ h.bx nm
end
end Go.Proofs.YtdaimeaofgbfpaaGreat.Bo
