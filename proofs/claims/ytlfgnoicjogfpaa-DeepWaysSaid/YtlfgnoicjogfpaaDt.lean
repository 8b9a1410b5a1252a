/-
  WALK: with a member more, and greater numbers, no place goes less deep.
-/
import Derived.Test.YtlfgnoicjogfpaaDs
import Derived.Test.YtlfgnoicjogfpaaDq
namespace Go.Proofs.Ytlfgnoicjogfpaa.By
open Go.RowKit
open Mem Gm Rf Dp
set_option linter.unusedSimpArgs false

/-- One of a list of yes and no is set. -/
theorem set_made {w : World} {base M at_ : Nat} {v : Value} {ins : List Bool} (b : Bool) (h : w.ownsRow base 4 1 v M (bls ins)) (hM : ins.length = M) (ha : at_ < M) :
    ∃ g cap, v = .slice (some ⟨g, 0, none⟩) M cap ∧ base ≤ g ∧ g < w.heap.size ∧ w.cell? ⟨g, at_, none⟩ = some (.bool (memV ins at_)) ∧ w.frozen? ⟨g, at_, none⟩ = false ∧ LW (w.setCell ⟨g, at_, none⟩ (.bool b)) (.slice (some ⟨g, 0, none⟩) M cap) (ins.set at_ b) := by
  rcases h.2 with ⟨_, hn⟩ | ⟨g, cap, cur, hv, hb, hg, hc, hm, hs, ht⟩
  · omega
  · rw [Nat.mul_one] at ht hs
    have hblk : Blk w g 4 cur := hg
    have hat : ∀ j, j < M → cur[j]? = some (.bool (memV ins j)) := fun j hj => by
      have h1 : (cur.toList.take M)[j]? = (bls ins)[j]? := by rw [ht]
      rw [List.getElem?_take, if_pos hj, Array.getElem?_toList] at h1
      rw [h1]
      unfold memV bls
      rw [List.getElem?_map, List.getElem?_eq_getElem (by omega)]; rfl
    refine ⟨g, cap, hv, hb, hblk.lt, by rw [hblk.cell, hat _ ha], hblk.frozen _, ?_⟩
    have hb2 := hblk.stored at_ (.bool b)
    have hlen : (bls (ins.set at_ b)).length = M := by simp [bls, hM]
    have : SlV (w.setCell ⟨g, at_, none⟩ (.bool b)) (w.setCell ⟨g, at_, none⟩ (.bool b)).heap.size (.slice (some ⟨g, 0, none⟩) (bls (ins.set at_ b)).length cap) (bls (ins.set at_ b)) :=
      .at_ _ _ _ (by rw [hlen]; exact hc) hm fun j u hu => ⟨hb2.lt, by
        rw [add_plain, Nat.zero_add, hb2.cell]
        have hj : j < M := by have := (List.getElem?_eq_some_iff.1 hu).1; rwa [hlen] at this
        have hjc : j < cur.size := (Array.getElem?_eq_some_iff.1 (hat j hj)).1
        rw [Array.getElem?_setIfInBounds]
        have hu2 : (bls (ins.set at_ b))[j]? = some u := hu
        unfold bls at hu2
        rw [List.getElem?_map, List.getElem?_set] at hu2
        by_cases e : at_ = j
        · subst e
          rw [if_pos rfl, if_pos hjc]
          rw [if_pos rfl, if_pos (by omega)] at hu2
          exact hu2
        · rw [if_neg e]
          rw [if_neg e] at hu2
          rw [hat j hj]
          unfold memV
          rw [List.getElem?_eq_getElem (by omega)] at hu2 ⊢
          exact hu2⟩
    rwa [hlen] at this

theorem memV_set1 {ins : List Bool} {a p : Nat} (ha : a < ins.length) (h : memV ins p = true) : memV (ins.set a true) p = true := by
  unfold memV at h ⊢
  rw [List.getElem?_set]
  by_cases e : a = p
  · rw [if_pos e, if_pos ha]; rfl
  · rw [if_neg e]; exact h
def grt (y : Int) (o : Int) : Int := min (max o 0) 5000 + y
theorem el_map (f : Int → Int) {l : List Int} {j : Nat} (h : j < l.length) : el (l.map f) j = f (el l j) := by
  unfold el
  rw [List.getD_eq_getElem?_getD, List.getD_eq_getElem?_getD, List.getElem?_map, List.getElem?_eq_getElem h]; rfl
theorem own_more {own : List Int} {y : Int} (hy : 0 ≤ y ∧ y ≤ 1000) (h5 : ∀ j, j < own.length → el own j ≤ 5000) (p : Nat) : ownV own p ≤ ownV (own.map (grt y)) p := by
  unfold ownV
  rw [List.length_map]
  by_cases hp : p < own.length
  · rw [if_pos hp, if_pos hp, el_map _ hp]
    have := h5 p hp
    unfold bndV nearV grt
    repeat' split
    all_goals omega
  · rw [if_neg hp, if_neg hp]; exact Int.le_refl 0

theorem dep_more {g : List (List Int)} {ins ins2 : List Bool} {own own2 : List Int} {l1 l2 : List Nat} (h1 : ordV g ins = some l1) (h2 : ordV g ins2 = some l2) (hm : ∀ p, memV ins p = true → memV ins2 p = true) (ho : ∀ p, ownV own p ≤ ownV own2 p) : ∀ (n : Nat) (p : Nat), rk l1 p < n → depF g ins own 0 1 l1 p ≤ depF g ins2 own2 0 2 l2 p
  | 0, _, h => by omega
  | n + 1, p, h => by
    have o1 := ordV_some h1
    have o2 := ordV_some h2
    by_cases hp : p ∈ l1
    · have hp2 : p ∈ l2 := (o2.mem p).2 ⟨((o1.mem p).1 hp).1, hm p ((o1.mem p).1 hp).2⟩
      have e1 : depF g ins own 0 1 l1 p = rnd (memV ins) (adjC g) (ownV own) (bndV 0) (bndV 1) (depF g ins own 0 1 l1) p := deeps_right (orde_of o1) p hp
      have e2 : depF g ins2 own2 0 2 l2 p = rnd (memV ins2) (adjC g) (ownV own2) (bndV 0) (bndV 2) (depF g ins2 own2 0 2 l2) p := deeps_right (orde_of o2) p hp2
      rw [e1, e2]
      unfold rnd
      rw [if_pos ((o1.mem p).1 hp).2, if_pos ((o2.mem p).1 hp2).2]
      have hmx : mx (bndV 1) (depF g ins own 0 1 l1) (adjC g p) ≤ mx (bndV 2) (depF g ins2 own2 0 2 l2) (adjC g p) := mx_mono (by decide) fun e he => by
        have := rk_less o1 hp (adjC_mem.1 he)
        exact dep_more h1 h2 hm ho n e (by omega)
      have := ho p
      omega
    · have e1 : depF g ins own 0 1 l1 p = bndV 0 := deeps_out hp
      rw [e1]
      have := (dep_ok g ins2 own2 0 2 l2 p).1
      have e0 : bndV 0 = 0 := by decide
      omega

/-- No place goes less deep. -/
theorem more_right {g : List (List Int)} {ins ins2 : List Bool} {own own2 : List Int} (hm : ∀ p, memV ins p = true → memV ins2 p = true) (ho : ∀ p, ownV own p ≤ ownV own2 p) (hx : (depV g ins own 0 1).isSome = true) (hy : (depV g ins2 own2 0 2).isSome = true) {j : Nat} (hj : j < g.length) : el ((depV g ins own 0 1).getD []) j ≤ el ((depV g ins2 own2 0 2).getD []) j := by
  unfold depV at hx hy ⊢
  cases h1 : ordV g ins with
  | none => rw [h1] at hx; cases hx
  | some l1 =>
    cases h2 : ordV g ins2 with
    | none => rw [h2] at hy; cases hy
    | some l2 =>
      simp only [Option.map_some, Option.getD_some]
      unfold depL
      rw [el_range hj, el_range hj]
      exact dep_more h1 h2 hm ho (rk l1 j + 1) j (by omega)
theorem depV_len {g : List (List Int)} {ins : List Bool} {own : List Int} {r s : Int} (hx : (depV g ins own r s).isSome = true) : ((depV g ins own r s).getD []).length = g.length := by
  unfold depV at hx ⊢
  cases h1 : ordV g ins with
  | none => rw [h1] at hx; cases hx
  | some l1 => simp [depL]

set_option maxHeartbeats 8000000 in
set_option maxRecDepth 100000 in
theorem deepMore_any (w : World) (A A2 A3 : Option Addr) (c c2 c3 N M K : Nat) (g : List (List Int)) (ins : List Bool) (own : List Int) (x y : Int) (hN : g.length = N) (hM : ins.length = M) (hK : own.length = K) (h : GW w (.slice A N c) g) (hI : LW w (.slice A2 M c2) ins) (hO : IW w (.slice A3 K c3) own) :
    Calls Try.prog 8 #[.slice A N c, .slice A2 M c2, .slice A3 K c3, .int .i64 x, .int .i64 y] w (TAns w) := by
  have HN := Lib.hid hN
  have HM := Lib.hid hM
  have HK := Lib.hid hK
  have HG := Lib.hid h
  have HI := Lib.hid hI
  have HO := Lib.hid hO
  clear hN hM hK h hI hO
  go_enter Try.func8, Try.ntmps8
  go_wp2_with fail
  refine (few_w _ _ _ _ g HN.out HG.out).mono ?_
  rintro e w' ⟨bl, rfl, hbl, rfl⟩
  cases bl with
  | false =>
    clear hbl
    go_wp2_with fail
    refine (known12_any _).mono ?_
    rintro e w9 ⟨rfl, b9⟩
    have HB99 := Lib.hid (b9)
    clear b9
    go_wp2_with fail
    go_ret
    exact ⟨rfl, HB99.out⟩
  | true =>
    have hs := hbl rfl
    clear hbl
    by_cases hm : 40 < M
    · have e0 : decide ((40 : Int) < (M : Int)) = true := decide_eq_true (by omega)
      clear hm
      go_wp2_with fail
      refine (known12_any _).mono ?_
      rintro e w9 ⟨rfl, b9⟩
      have HB99 := Lib.hid (b9)
      clear b9
      go_wp2_with fail
      go_ret
      exact ⟨rfl, HB99.out⟩
    by_cases hk : 40 < K
    · have e1 : decide ((40 : Int) < (K : Int)) = true := decide_eq_true (by omega)
      have e0 : decide ((40 : Int) < (M : Int)) = false := decide_eq_false (by omega)
      clear hm hk
      go_wp2_with fail
      refine (known12_any _).mono ?_
      rintro e w9 ⟨rfl, b9⟩
      have HB99 := Lib.hid (b9)
      clear b9
      go_wp2_with fail
      go_ret
      exact ⟨rfl, HB99.out⟩
    by_cases hx0 : x < 0
    · have e2 : decide (x < 0) = true := decide_eq_true (by omega)
      have e0 : decide ((40 : Int) < (M : Int)) = false := decide_eq_false (by omega)
      have e1 : decide ((40 : Int) < (K : Int)) = false := decide_eq_false (by omega)
      clear hm hk hx0
      go_wp2_with fail
      refine (known12_any _).mono ?_
      rintro e w9 ⟨rfl, b9⟩
      have HB99 := Lib.hid (b9)
      clear b9
      go_wp2_with fail
      go_ret
      exact ⟨rfl, HB99.out⟩
    by_cases hxM : (M : Int) ≤ x
    · have e3 : decide ((M : Int) ≤ x) = true := decide_eq_true (by omega)
      have e0 : decide ((40 : Int) < (M : Int)) = false := decide_eq_false (by omega)
      have e1 : decide ((40 : Int) < (K : Int)) = false := decide_eq_false (by omega)
      have e2 : decide (x < 0) = false := decide_eq_false (by omega)
      clear hm hk hx0 hxM
      go_wp2_with fail
      refine (known12_any _).mono ?_
      rintro e w9 ⟨rfl, b9⟩
      have HB99 := Lib.hid (b9)
      clear b9
      go_wp2_with fail
      go_ret
      exact ⟨rfl, HB99.out⟩
    by_cases hy0 : y < 0
    · have e4 : decide (y < 0) = true := decide_eq_true (by omega)
      have e0 : decide ((40 : Int) < (M : Int)) = false := decide_eq_false (by omega)
      have e1 : decide ((40 : Int) < (K : Int)) = false := decide_eq_false (by omega)
      have e2 : decide (x < 0) = false := decide_eq_false (by omega)
      have e3 : decide ((M : Int) ≤ x) = false := decide_eq_false (by omega)
      clear hm hk hx0 hxM hy0
      go_wp2_with fail
      refine (known12_any _).mono ?_
      rintro e w9 ⟨rfl, b9⟩
      have HB99 := Lib.hid (b9)
      clear b9
      go_wp2_with fail
      go_ret
      exact ⟨rfl, HB99.out⟩
    by_cases hy1 : 1000 < y
    · have e5 : decide ((1000 : Int) < y) = true := decide_eq_true (by omega)
      have e0 : decide ((40 : Int) < (M : Int)) = false := decide_eq_false (by omega)
      have e1 : decide ((40 : Int) < (K : Int)) = false := decide_eq_false (by omega)
      have e2 : decide (x < 0) = false := decide_eq_false (by omega)
      have e3 : decide ((M : Int) ≤ x) = false := decide_eq_false (by omega)
      have e4 : decide (y < 0) = false := decide_eq_false (by omega)
      clear hm hk hx0 hxM hy0 hy1
      go_wp2_with fail
      refine (known12_any _).mono ?_
      rintro e w9 ⟨rfl, b9⟩
      have HB99 := Lib.hid (b9)
      clear b9
      go_wp2_with fail
      go_ret
      exact ⟨rfl, HB99.out⟩
    · have e0 : decide ((40 : Int) < (M : Int)) = false := decide_eq_false (by omega)
      have e1 : decide ((40 : Int) < (K : Int)) = false := decide_eq_false (by omega)
      obtain ⟨a, rfl⟩ : ∃ a : Nat, x = (a : Int) := ⟨x.toNat, by omega⟩
      have haM : a < M := by omega
      have e2 : ¬ (a : Int) < 0 := by omega
      have e3 : ¬ (M : Int) ≤ (a : Int) := by omega
      have e4 : ¬ y < 0 := hy0
      have e5 : ¬ (1000 : Int) < y := hy1
      have haI : (a : Int) < (M : Int) := by omega
      have ha0 : (0 : Int) ≤ (a : Int) := by omega
      have hM40 : M ≤ 40 := by omega
      have hK40 : K ≤ 40 := by omega
      have HYY := Lib.hid (show 0 ≤ y ∧ y ≤ 1000 by omega)
      have HS := Lib.hid hs
      have HN24 := Lib.hid (show N ≤ 24 from HN.out ▸ hs.1)
      obtain ⟨ib, hib, hyb0, hyb1, hyb2⟩ := info_parts infoB
      obtain ⟨i0, hi, hz0, hz1, hz2⟩ := info_parts infoI
      have HLI := Lib.hid (show (bls ins).length = M by simp [bls, HM.out])
      have HSI := Lib.hid (show SlV w w.heap.size (.slice A2 M c2) (bls ins) from HI.out)
      have HNIL := Lib.hid (show w.ownsRow w.heap.size 4 1 (.slice none 0 0) 0 [] from World.ownsRow_nil _ _ _ _)
      have H1C := Lib.hid (show ∀ z ∈ bls ins, z.oneCell' = true from fun z hz => by
        obtain ⟨z', _, rfl⟩ := List.mem_map.1 hz; rfl)
      clear hs hm hk hx0 hxM hy0 hy1
      go_wp2_with (
        at_builtin
        refine wpList_append_slv _ rfl _ _ 23 rfl w.heap.size 4 ib (.bool false) 1 Try.underlying23 hib hyb0 hyb1 hyb2 rfl (.slice none 0 0) [] rfl HNIL.out w.heap.size (.slice A2 M c2) (bls ins) rfl HSI.out H1C.out (by rw [HLI.out]; unfold maxLen; simp; omega) (by rw [HLI.out]; simp; omega) (Nat.le_refl _) ?_
        intro v' w' h2 h3
        rw [List.nil_append, HLI.out] at h2
        obtain ⟨gb, cap, rfl, hgb, hgl, hcx, hfx, hlw⟩ := set_made true h2 HM.out haM
        have HLW := Lib.hid hlw
        have HB9 := Lib.hid (show Below w.heap.size w (w'.setCell ⟨gb, a, none⟩ (.bool true)) from ((Below.refl _ w).grown h3 (Nat.le_refl _) fun r e => by cases e).setCell (p := ⟨gb, a, none⟩) hgb _)
        clear hlw h2 h3 hgb hgl)
      have hwa0 : ∃ wa, (w'.setCell ⟨gb, a, none⟩ (.bool true)) = wa := ⟨_, rfl⟩
      obtain ⟨wa, hwa⟩ := hwa0
      rw [hwa] at HLW HB9 ⊢
      clear hwa hcx hfx HNIL HSI H1C HLI
      have HOA := Lib.hid (HO.out.on HB9.out)
      go_loopw [12, 13] (fun gv i wr => ∃ k : Nat, k ≤ K ∧ i = .int .i64 k ∧ wr.ownsRow wa.heap.size 3 1 gv k (ints ((own.take k).map (grt y))) ∧ Below wa.heap.size wa wr) (fun _ i _ => K - (intOf i).toNat)
      case atStart => exact ⟨0, by omega, rfl, World.ownsRow_nil _ _ _ _, Below.refl _ _⟩
      case round =>
        obtain ⟨k, hk, rfl, hown, hB⟩ := hrel
        by_cases hlt : k < K
        · have HLT := Lib.hid hlt
          obtain ⟨ad3, hA3, hco⟩ := (HOA.out.on hB).at_ HK.out hlt
          have hA3' := hA3
          subst hA3'
          have hkl : k < own.length := by rw [HK.out]; exact hlt
          have HNX := Lib.hid (show (own.take (k + 1)).map (grt y) = (own.take k).map (grt y) ++ [grt y (el own k)] from by rw [List.take_succ_eq_append_getElem hkl, List.map_append, el_at hkl]; rfl)
          obtain ⟨o, ho⟩ : ∃ o, el own k = o := ⟨_, rfl⟩
          rw [ho] at hco HNX
          have hyy := HYY.out
          have hw1 : IntKind.i64.wrap (min (max o 0) 5000 + y) = min (max o 0) 5000 + y := IntWalk.i64_in _ ⟨by omega, by omega⟩
          obtain ⟨v, hv⟩ : ∃ v, min (max o 0) 5000 + y = v := ⟨_, rfl⟩
          have HV := Lib.hid (show grt y o = v from hv)
          rw [hv] at hw1
          have HNW := Lib.hid (show (wr.alloc (.cells #[.int .i64 v] 3)).cell? ⟨wr.heap.size, 0, none⟩ = some (.int .i64 v) from ((Blk.new wr 3 #[.int .i64 v]).cell 0).trans rfl)
          have HOW := Lib.hid (own_keep (w' := wr.alloc (.cells #[.int .i64 v] 3)) hown fun q9 _ hq _ => Below.heap_alloc wr _ _ hq)
          have HLO := Lib.hid hown.lt
          have HBB := Lib.hid hB
          have HS1 := Lib.hid (show k + 1 ≤ maxLen by unfold maxLen; omega)
          have HS2 := Lib.hid (show (k + 1) * 8 ≤ 140737488355328 by omega)
          have HS3 := Lib.hid (show wa.heap.size ≤ (wr.alloc (.cells #[.int .i64 v] 3)).heap.size from by rw [World.size_alloc]; exact Nat.le_trans hB.size (Nat.le_succ _))
          have hkI : (k : Int) < (K : Int) := by omega
          have hk0 : (0 : Int) ≤ (k : Int) := by omega
          clear hown hB hkl ho hyy hk
          go_wp2_with (at_builtin; refine wpList_append_where _ rfl (.tmp 64) (.tmp 73) 26 rfl wa.heap.size 3 i0 (.int .i64 0) 8 Try.underlying26 hi hz0 hz1 hz2 rfl u12 k (ints ((own.take k).map (grt y))) rfl HOW.out ⟨wr.heap.size, 0, none⟩ 1 (.int .i64 v) rfl HNW.out rfl HS1.out HS2.out HS3.out ?_; intro v' w' h2 h3 h4; clear h4; have H2 := Lib.hid h2; have H3 := Lib.hid h3; clear h2 h3)
          have h2 : w'.ownsRow wa.heap.size 3 1 v' (k + 1) (ints ((own.take (k + 1)).map (grt y))) := by rw [HNX.out, HV.out]; have := H2.out; simpa [ints] using this
          have h3 : Below wa.heap.size wa w' := (HBB.out.alloc HBB.out.size _).grown H3.out HS3.out fun r e => (HLO.out r e).1
          go_roundw
          case rel => exact ⟨k + 1, by have := HLT.out; omega, by go_num, h2, h3⟩
          case measure => have := HLT.out; simp [intOf]; omega
        · obtain rfl : k = K := by omega
          rw [List.take_of_length_le (by rw [HK.out]; exact Nat.le_refl _)] at hown
          have hlen9 : (own.map (grt y)).length = k := by rw [List.length_map]; exact HK.out
          obtain ⟨OA, OC, hov⟩ := (SlV.of_own hown).form
          rw [show (ints (own.map (grt y))).length = k by simp [ints, HK.out]] at hov
          subst hov
          have HQ1 := Lib.hid (show IW wr (.slice OA k OC) (own.map (grt y)) from SlV.of_own hown)
          have HB0 := Lib.hid (to_ HB9.out hB)
          have HG1 := Lib.hid (HG.out.on HB0.out)
          have HI1 := Lib.hid (HI.out.on HB0.out)
          have HO1 := Lib.hid (HO.out.on HB0.out)
          have HK1 := Lib.hid (HLW.out.on hB)
          have hM2 : (ins.set a true).length = M := by rw [List.length_set]; exact HM.out
          have HMR := Lib.hid (fun h5 hx hy j hj => more_right (g := g) (ins := ins) (ins2 := ins.set a true) (own := own) (own2 := own.map (grt y)) (fun p hp => memV_set1 (by rw [HM.out]; exact haM) hp) (own_more HYY.out h5) hx hy (j := j) hj)
          have HLA := Lib.hid (fun hx => depV_len (g := g) (ins := ins) (own := own) (r := 0) (s := 1) hx)
          have HLB := Lib.hid (fun hx => depV_len (g := g) (ins := ins.set a true) (own := own.map (grt y)) (r := 0) (s := 2) hx)
          obtain ⟨L1, hL1⟩ : ∃ L1, ((depV g ins own 0 1).getD []).length = L1 := ⟨_, rfl⟩
          obtain ⟨L2, hL2⟩ : ∃ L2, ((depV g (ins.set a true) (own.map (grt y)) 0 2).getD []).length = L2 := ⟨_, rfl⟩
          have HD1 := Lib.hid (fun w A A2 A3 c c2 c3 h hI hO => depths_w w A A2 A3 c c2 c3 N M k L1 g ins own 0 1 HN.out HM.out HK.out hL1 h hI hO HS.out)
          have HD2 := Lib.hid (fun w A A2 A3 c c2 c3 h hI hO => depths_w w A A2 A3 c c2 c3 N M k L2 g (ins.set a true) (own.map (grt y)) 0 2 HN.out hM2 hlen9 hL2 h hI hO HS.out)
          have HLL1 := Lib.hid hL1
          have HLL2 := Lib.hid hL2
          rw [hL1] at HLA
          rw [hL2] at HLB
          generalize (depV g ins own 0 1).getD [] = l1 at HD1 HMR HLL1
          generalize (depV g ins own 0 1).isSome = x1 at HD1 HMR HLA
          generalize (depV g (ins.set a true) (own.map (grt y)) 0 2).getD [] = l2 at HD2 HMR HLL2
          generalize (depV g (ins.set a true) (own.map (grt y)) 0 2).isSome = x2 at HD2 HMR HLB
          clear hL1 hL2 hM2 hlen9 hown hB hlt hk HLW HB9 HOA
          go_wp2_with fail
          refine (HD1.out _ _ _ _ _ _ _ HG1.out HI1.out HO1.out).mono ?_
          rintro e w1 ⟨X1, y1, rfl, h1, b1⟩
          have Ra1 := Lib.hid (h1)
          have Rg1 := Lib.hid (HG1.out.on b1)
          have Ro1 := Lib.hid (HO1.out.on b1)
          have Rk1 := Lib.hid (HK1.out.on b1)
          have Rq1 := Lib.hid (HQ1.out.on b1)
          have HB1 := Lib.hid (to_ HB0.out b1)
          clear b1 h1 HG1 HI1 HO1 HK1 HQ1 HB0
          go_wp2_with fail
          refine (HD2.out _ _ _ _ _ _ _ Rg1.out Rk1.out Rq1.out).mono ?_
          rintro e w2 ⟨X2, y2, rfl, h2, b2⟩
          have Rb2 := Lib.hid (h2)
          have Ra2 := Lib.hid (Ra1.out.on b2)
          have Ro2 := Lib.hid (Ro1.out.on b2)
          have HB2 := Lib.hid (to_ HB1.out b2)
          clear b2 h2 Ra1 Rg1 Ro1 Rk1 Rq1 HB1
          go_wp2_with fail
          go_loopw [18] (fun i wr => ∃ j : Nat, j ≤ k ∧ i = .int .i64 (j : Int) ∧ (∀ q, q < j → el own q ≤ 5000) ∧ w2 = wr) (fun i _ => k - (intOf i).toNat)
          case atStart => exact ⟨0, by omega, rfl, fun q hq => by omega, rfl⟩
          case round =>
            obtain ⟨j, hj, rfl, h5, rfl⟩ := hrel
            have H5 := Lib.hid h5
            clear h5
            by_cases hjk : j < k
            · have HJK := Lib.hid hjk
              obtain ⟨ad3, hA3, hco⟩ := Ro2.out.at_ HK.out hjk
              subst hA3
              obtain ⟨o, ho⟩ : ∃ o, el own j = o := ⟨_, rfl⟩
              rw [ho] at hco
              have HOJ := Lib.hid ho
              have hjI : (j : Int) < (k : Int) := by omega
              have hj0 : (0 : Int) ≤ (j : Int) := by omega
              clear ho hj
              by_cases ho5 : (5000 : Int) < o
              · go_wp2_with fail
                refine (known12_any _).mono ?_
                rintro e w9 ⟨rfl, b9⟩
                have HB99 := Lib.hid (to_ HB2.out b9)
                clear b9
                go_wp2_with fail
                go_ret
                exact ⟨rfl, HB99.out⟩
              · have HO5 := Lib.hid (show o ≤ 5000 by omega)
                go_wp2_with fail
                go_roundw
                case rel => exact ⟨j + 1, by have := HJK.out; omega, by go_num, fun q hq => by
                  rcases Nat.lt_or_ge q j with h9 | h9
                  · exact H5.out q h9
                  · obtain rfl : q = j := by omega
                    rw [HOJ.out]; exact HO5.out, by first | rfl | trivial⟩
                case measure => have := HJK.out; simp [intOf]; omega
            · obtain rfl : j = k := by omega
              clear hj hjk
              cases x1 with
              | false =>
                go_wp2_with fail
                go_loopw [19] (fun i wr => i = .int .i64 0 ∧ w2 = wr) (fun _ _ => 0)
                case atStart => exact ⟨rfl, rfl⟩
                case round =>
                  obtain ⟨rfl, rfl⟩ := hrel
                  go_wp2_with fail
                  refine (known12_any _).mono ?_
                  rintro e w9 ⟨rfl, b9⟩
                  have HB99 := Lib.hid (to_ HB2.out b9)
                  clear b9
                  go_wp2_with fail
                  go_ret
                  exact ⟨rfl, HB99.out⟩
              | true =>
                cases x2 with
                | false =>
                  go_wp2_with fail
                  go_loopw [19] (fun i wr => i = .int .i64 0 ∧ w2 = wr) (fun _ _ => 0)
                  case atStart => exact ⟨rfl, rfl⟩
                  case round =>
                    obtain ⟨rfl, rfl⟩ := hrel
                    go_wp2_with fail
                    refine (known12_any _).mono ?_
                    rintro e w9 ⟨rfl, b9⟩
                    have HB99 := Lib.hid (to_ HB2.out b9)
                    clear b9
                    go_wp2_with fail
                    go_ret
                    exact ⟨rfl, HB99.out⟩
                | true =>
                  have hn1 : L1 = N := by rw [HLA.out rfl]; exact HN.out
                  have hn2 : L2 = N := by rw [HLB.out rfl]; exact HN.out
                  subst hn1
                  have hn3 := hn2
                  subst hn3
                  clear hn2
                  have HLESS := Lib.hid (fun q (hq : q < L2) => HMR.out (fun t ht => H5.out t (by rw [← HK.out]; exact ht)) rfl rfl q (by rw [HN.out]; exact hq))
                  have hL24 := HN24.out
                  go_wp2_with fail
                  go_loopw [19] (fun i wr => ∃ q r : Nat, q ≤ L2 ∧ i = .int .i64 (q : Int) ∧ wr = w2.drewN r) (fun i _ => L2 - (intOf i).toNat)
                  case atStart => exact ⟨0, 0, Nat.zero_le _, rfl, rfl⟩
                  case round =>
                    obtain ⟨q, r, hq, rfl, rfl⟩ := hrel
                    by_cases hql : q < L2
                    · have HQL := Lib.hid hql
                      obtain ⟨ad1, hA1, hc1⟩ := Ra2.out.at_ HLL1.out hql
                      obtain ⟨ad2, hA2, hc2⟩ := Rb2.out.at_ HLL2.out hql
                      subst hA1 hA2
                      have hle := HLESS.out q hql
                      generalize el l1 q = d1 at hc1 hle
                      generalize el l2 q = d2 at hc2 hle
                      have hnl : ¬ d2 < d1 := by omega
                      have hqI : (q : Int) < (L2 : Int) := by omega
                      have hq0 : (0 : Int) ≤ (q : Int) := by omega
                      clear hq hle
                      go_wp2_with fail
                      go_quiet (fail)
                      go_wp2_with fail
                      go_roundw
                      case rel => exact ⟨q + 1, r + nq, by have := HQL.out; omega, by go_num, by first | rfl | exact World.drewN_drewN ..⟩
                      case measure => have := HQL.out; simp [intOf]; omega
                    · obtain rfl : q = L2 := by omega
                      have HB3 := Lib.hid (below_drewN HB2.out r)
                      clear hq hql
                      go_wp2_with fail
                      refine (known12_any _).mono ?_
                      rintro e w9 ⟨rfl, b9⟩
                      have HB99 := Lib.hid (to_ HB3.out b9)
                      clear b9
                      go_wp2_with fail
                      go_ret
                      exact ⟨rfl, HB99.out⟩
end Go.Proofs.Ytlfgnoicjogfpaa.By
