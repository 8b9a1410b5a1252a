/-
  WALK: the way that is told costs just as much as the place goes deep.
-/
import Derived.Test.YtlfgnoicjogfpaaDt
import Derived.Test.YtlfgnoicjogfpaaDu
namespace Go.Proofs.Ytlfgnoicjogfpaa.By
open Go.RowKit
open Mem Gm Rf Dp

/-- What a place costs by itself. -/
def pcV (ins : List Bool) (own : List Int) (r : Int) (p : Nat) : Int := if memV ins p = true then (if p < own.length then el own p else 0) else r
/-- What the places of a way cost, each with a step. -/
def smW (ins : List Bool) (own : List Int) (r s : Int) : List Nat → Int
  | [] => 0
  | p :: l => s + pcV ins own r p + smW ins own r s l
theorem smW_snoc {ins : List Bool} {own : List Int} {r s : Int} (p : Nat) : ∀ l, smW ins own r s (l ++ [p]) = smW ins own r s l + (s + pcV ins own r p)
  | [] => by show s + pcV ins own r p + 0 = 0 + _; omega
  | a :: l => by
    show s + pcV ins own r a + smW ins own r s (l ++ [p]) = s + pcV ins own r a + smW ins own r s l + _
    rw [smW_snoc p l]; omega
theorem bnd_small {x : Int} (h0 : 0 ≤ x) (h1 : x ≤ 1048576) : bndV x = x := by
  unfold bndV nearV
  rw [if_neg (by omega), if_neg (by omega)]
def Sm (own : List Int) : Prop := ∀ j, j < own.length → 0 ≤ el own j ∧ el own j ≤ 5000
theorem pcV_ok {ins : List Bool} {own : List Int} {r : Int} (h5 : Sm own) (hr : 0 ≤ r ∧ r ≤ 100) (p : Nat) : 0 ≤ pcV ins own r p ∧ pcV ins own r p ≤ 5000 := by
  unfold pcV
  split
  · split
    · exact h5 p (by assumption)
    · omega
  · omega
theorem smW_ok {ins : List Bool} {own : List Int} {r s : Int} (h5 : Sm own) (hr : 0 ≤ r ∧ r ≤ 100) (hs : 0 ≤ s ∧ s ≤ 100) : ∀ l : List Nat, 0 ≤ smW ins own r s l ∧ smW ins own r s l ≤ 5100 * l.length
  | [] => by show (0 : Int) ≤ 0 ∧ (0 : Int) ≤ 5100 * ((0 : Nat) : Int); omega
  | p :: l => by
    have h1 := smW_ok h5 hr hs (ins := ins) l
    have h2 := pcV_ok (ins := ins) h5 hr p
    show 0 ≤ s + pcV ins own r p + smW ins own r s l ∧ s + pcV ins own r p + smW ins own r s l ≤ 5100 * ((l.length + 1 : Nat) : Int)
    omega
theorem ownV_small {own : List Int} (h5 : Sm own) (p : Nat) : ownV own p = (if p < own.length then el own p else 0) := by
  unfold ownV
  split
  · rename_i h
    have := h5 p h
    exact bnd_small (by omega) (by omega)
  · rfl
theorem ownV_ok5 {own : List Int} (h5 : Sm own) (p : Nat) : 0 ≤ ownV own p ∧ ownV own p ≤ 5000 := by
  rw [ownV_small h5]
  split
  · exact h5 p (by assumption)
  · omega

theorem dep_small {g : List (List Int)} {ins : List Bool} {own : List Int} {r s : Int} {l : List Nat} (hl : ordV g ins = some l) (h5 : Sm own) (hr : 0 ≤ r ∧ r ≤ 100) (hs : 0 ≤ s ∧ s ≤ 100) : ∀ (n p : Nat), rk l p < n → depF g ins own r s l p ≤ 5100 * (n : Int) + 100
  | 0, _, h => by omega
  | n + 1, p, h => by
    have o1 := ordV_some hl
    by_cases hp : p ∈ l
    · have e1 : depF g ins own r s l p = rnd (memV ins) (adjC g) (ownV own) (bndV r) (bndV s) (depF g ins own r s l) p := deeps_right (orde_of o1) p hp
      rw [e1]
      unfold rnd
      rw [if_pos ((o1.mem p).1 hp).2, bnd_small hs.1 (by omega)]
      have hmx : mx s (depF g ins own r s l) (adjC g p) ≤ 5100 * (n : Int) + 200 := mx_le (by omega) fun e he => by
        have h1 := rk_less o1 hp (adjC_mem.1 he)
        have := dep_small hl h5 hr hs n e (by omega)
        omega
      have := ownV_ok5 h5 p
      omega
    · have e1 : depF g ins own r s l p = bndV r := deeps_out hp
      rw [e1, bnd_small hr.1 (by omega)]
      omega

theorem dep_is {g : List (List Int)} {ins : List Bool} {own : List Int} {r s : Int} {l : List Nat} (hl : ordV g ins = some l) (h24 : l.length ≤ 24) (h5 : Sm own) (hr : 0 ≤ r ∧ r ≤ 100) (hs : 0 ≤ s ∧ s ≤ 100) {p : Nat} (hp : p ∈ l) :
    depF g ins own r s l p = mx s (depF g ins own r s l) (adjC g p) + ownV own p := by
  have o1 := ordV_some hl
  have e1 : depF g ins own r s l p = rnd (memV ins) (adjC g) (ownV own) (bndV r) (bndV s) (depF g ins own r s l) p := deeps_right (orde_of o1) p hp
  rw [e1]
  unfold rnd
  rw [if_pos ((o1.mem p).1 hp).2, bnd_small hs.1 (by omega)]
  have hmx : mx s (depF g ins own r s l) (adjC g p) ≤ 5100 * 25 + 200 := mx_le (by omega) fun e he => by
    have h1 := rk_le l e
    have := dep_small hl h5 hr hs 25 e (by omega)
    omega
  have := ownV_ok5 h5 p
  unfold cap
  omega

theorem ways_cost {g : List (List Int)} {ins : List Bool} {own : List Int} {r s : Int} {l : List Nat} {d : Nat → Int} (hl : ordV g ins = some l) (h24 : l.length ≤ 24) (h5 : Sm own) (hr : 0 ≤ r ∧ r ≤ 100) (hs : 0 ≤ s ∧ s ≤ 100) (hd : ∀ p, p < g.length → d p = depF g ins own r s l p) :
    ∀ (f a : Nat), a < g.length → rk l a ≤ f → smW ins own r s (worL g ins d f a) = depF g ins own r s l a - pcV ins own r a
  | f, a, ha, hf => by
    have o1 := ordV_some hl
    by_cases hm : memV ins a = true
    · have hp : a ∈ l := (o1.mem a).2 ⟨ha, hm⟩
      have h1 := rk_pos hp
      obtain ⟨f, rfl⟩ : ∃ k, f = k + 1 := ⟨f - 1, by omega⟩
      have hpc : pcV ins own r a = ownV own a := by unfold pcV; rw [if_pos hm, ownV_small h5]
      show smW ins own r s (if memV ins a = true then _ else _ : List Nat) = _
      rw [if_pos hm, hpc, dep_is hl h24 h5 hr hs hp]
      cases hb : bestO d (adjC g a) with
      | none =>
        rw [bestO_none.1 hb]
        show (0 : Int) = 0 + ownV own a - ownV own a
        omega
      | some e =>
        have hbm := bestO_mem hb
        have hE := adjC_mem.1 hbm.1
        have heN : e < g.length := (E_iff.1 hE).2.1
        have ih := ways_cost hl h24 h5 hr hs hd f e heN (by have := rk_less o1 hp hE; omega)
        have hde := hd e heN
        have hd0 := (dep_ok g ins own r s l e).1
        have hmx := mx_best (st := s) hb (by omega)
        have hcg : mx s (depF g ins own r s l) (adjC g a) = mx s d (adjC g a) := mx_congr fun x hx => (hd x (E_iff.1 (adjC_mem.1 hx)).2.1).symm
        rw [hcg, hmx, hde]
        show s + pcV ins own r e + smW ins own r s (worL g ins d f e) = _
        rw [ih]
        omega
    · have hmf : memV ins a = false := by cases h : memV ins a <;> simp_all
      have hnl : a ∉ l := fun h => hm ((o1.mem a).1 h).2
      have hpc : pcV ins own r a = r := by unfold pcV; rw [if_neg hm]
      have e1 : depF g ins own r s l a = bndV r := deeps_out hnl
      rw [e1, hpc, bnd_small hr.1 (by omega)]
      have : worL g ins d f a = [] := by
        cases f with
        | zero => rfl
        | succ f => show (if memV ins a = true then _ else _ : List Nat) = []; rw [if_neg hm]
      rw [this]
      show (0 : Int) = r - r
      omega

theorem worL_in {g : List (List Int)} {ins : List Bool} {d : Nat → Int} : ∀ (f a : Nat), ∀ p ∈ worL g ins d f a, p < g.length
  | 0, _, p, h => by cases h
  | f + 1, a, p, h => by
    have h : p ∈ (if memV ins a = true then (match bestO d (adjC g a) with | none => [] | some e => e :: worL g ins d f e) else [] : List Nat) := h
    split at h
    · cases hb : bestO d (adjC g a) with
      | none => rw [hb] at h; cases h
      | some e =>
        rw [hb] at h
        rcases List.mem_cons.1 h with rfl | h
        · exact (E_iff.1 (adjC_mem.1 (bestO_mem hb).1)).2.1
        · exact worL_in f e p h
    · cases h

/-- The way that is told, and what it costs. -/
theorem way_right {g : List (List Int)} {ins : List Bool} {own : List Int} {r s z : Int} (hN : g.length ≤ 24) (h5 : Sm own) (hr : 0 ≤ r ∧ r ≤ 100) (hs : 0 ≤ s ∧ s ≤ 100) :
    (((depV g ins own r s).isSome = false ∨ z < 0 ∨ (g.length : Int) ≤ z) → worI g ins own r s z = []) ∧
    ((depV g ins own r s).isSome = true → 0 ≤ z → z < (g.length : Int) → ∃ ws : List Nat, worI g ins own r s z = coI (z.toNat :: ws) ∧ (∀ p ∈ z.toNat :: ws, p < g.length) ∧ smW ins own r s (z.toNat :: ws) - s = el ((depV g ins own r s).getD []) z.toNat) := by
  unfold worI depV
  cases hl : ordV g ins with
  | none => exact ⟨fun _ => rfl, fun h => by simp at h⟩
  | some l =>
    refine ⟨fun h => ?_, fun _ h0 h1 => ?_⟩
    · show (if _ then _ else _ : List Int) = []
      rw [if_neg]
      rcases h with h | h | h
      · simp at h
      · omega
      · omega
    · refine ⟨_, if_pos ⟨h0, h1⟩, fun p hp => ?_, ?_⟩
      · rcases List.mem_cons.1 hp with rfl | hp
        · omega
        · exact worL_in _ _ p hp
      · have o1 := ordV_some hl
        have h24 : l.length ≤ 24 := Nat.le_trans (nodup_len _ _ o1.nodup fun x hx => ((o1.mem x).1 hx).1) hN
        have hz : z.toNat < g.length := by omega
        simp only [Option.map_some, Option.getD_some]
        have hel : ∀ p, p < g.length → el (depL g ins own r s l) p = depF g ins own r s l p := fun p hp => by unfold depL; exact el_range hp
        have := ways_cost (d := fun p => el (depL g ins own r s l) p) hl h24 h5 hr hs hel l.length z.toNat hz (rk_le _ _)
        show s + pcV ins own r z.toNat + smW ins own r s _ - s = _
        rw [this, hel _ hz]
        omega
end Go.Proofs.Ytlfgnoicjogfpaa.By

namespace Go.Proofs.Ytlfgnoicjogfpaa.By
open Go.RowKit
open Mem Gm Rf Dp
set_option linter.unusedSimpArgs false
set_option linter.unusedVariables false

theorem coI_at {W : List Nat} {j : Nat} (h : j < W.length) : el (coI W) j = ((W.getD j 0 : Nat) : Int) := by
  unfold el coI
  rw [List.getD_eq_getElem?_getD, List.getD_eq_getElem?_getD, List.getElem?_map, List.getElem?_eq_getElem h]; rfl
/-- What is come to behind the first places of a way. -/
def cstW (ins : List Bool) (own : List Int) (r s : Int) (W : List Nat) (j : Nat) : Int := smW ins own r s (W.take j) - (if j = 0 then 0 else s)
theorem cst_next {ins : List Bool} {own : List Int} {r s : Int} {W : List Nat} {j : Nat} (h : j < W.length) : cstW ins own r s W (j + 1) = cstW ins own r s W j + (if j = 0 then 0 else s) + pcV ins own r (W.getD j 0) := by
  have e : W.getD j 0 = W[j] := by rw [List.getD_eq_getElem?_getD, List.getElem?_eq_getElem h]; rfl
  unfold cstW
  rw [List.take_succ_eq_append_getElem h, smW_snoc, if_neg (by omega), e]
  by_cases hj : j = 0
  · subst hj
    show (0 : Int) + _ - s = 0 - 0 + 0 + _
    omega
  · rw [if_neg hj]; omega
theorem cst_ok {ins : List Bool} {own : List Int} {r s : Int} {W : List Nat} (h5 : Sm own) (hr : 0 ≤ r ∧ r ≤ 100) (hs : 0 ≤ s ∧ s ≤ 100) : ∀ j : Nat, j ≤ W.length → 0 ≤ cstW ins own r s W j ∧ cstW ins own r s W j ≤ 5100 * (j : Int)
  | 0, _ => by show (0 : Int) ≤ 0 - 0 ∧ (0 : Int) - 0 ≤ 5100 * ((0 : Nat) : Int); omega
  | j + 1, h => by
    have h1 := cst_ok (ins := ins) (W := W) h5 hr hs j (by omega)
    have h2 := pcV_ok (ins := ins) h5 hr (W.getD j 0)
    rw [cst_next (by omega)]
    split <;> omega
theorem cst_end {ins : List Bool} {own : List Int} {r s : Int} {W : List Nat} (h : 0 < W.length) : cstW ins own r s W W.length = smW ins own r s W - s := by
  unfold cstW
  rw [List.take_length, if_neg (by omega)]
theorem IW.cell_on {w w' : World} {ad : Addr} {c n : Nat} {l : List Int} (h : IW w (.slice (some ad) n c) l) (hn : l.length = n) {j : Nat} (hj : j < n) (b : Below w.heap.size w w') : w'.cell? (ad.add j) = some (.int .i64 (el l j)) := by
  obtain ⟨ad', e, hc⟩ := (h.on b).at_ hn hj
  cases e
  exact hc

set_option maxHeartbeats 16000000 in
set_option maxRecDepth 100000 in
theorem deepWays_any (w : World) (A A2 A3 : Option Addr) (c c2 c3 N M K : Nat) (g : List (List Int)) (ins : List Bool) (own : List Int) (x y z : Int) (hN : g.length = N) (hM : ins.length = M) (hK : own.length = K) (h : GW w (.slice A N c) g) (hI : LW w (.slice A2 M c2) ins) (hO : IW w (.slice A3 K c3) own) :
    Calls Try.prog 7 #[.slice A N c, .slice A2 M c2, .slice A3 K c3, .agg #[.int .i64 x, .int .i64 y, .int .i64 z]] w (TAns w) := by
  have HN := Lib.hid hN
  have HM := Lib.hid hM
  have HK := Lib.hid hK
  have HG := Lib.hid h
  have HI := Lib.hid hI
  have HO := Lib.hid hO
  clear hN hM hK h hI hO
  go_enter Try.func7, Try.ntmps7
  go_wp2_with fail
  have hw0 : ∃ wa, w.alloc (.cells #[.int .i64 x, .int .i64 y, .int .i64 z] 35) = wa := ⟨_, rfl⟩
  obtain ⟨wa, hwa⟩ := hw0
  have HB0 := Lib.hid (show Below w.heap.size w wa from by rw [← hwa]; exact (Below.refl _ w).alloc (Nat.le_refl _) _)
  have HC1 := Lib.hid (show C3 wa w.heap.size x y z from by rw [← hwa]; exact .new _ _ _ _ _)
  rw [hwa]
  clear hwa
  have HG1 := Lib.hid (HG.out.on HB0.out)
  have HI1 := Lib.hid (HI.out.on HB0.out)
  have HO1 := Lib.hid (HO.out.on HB0.out)
  clear HG HI HO
  refine (few_w _ _ _ _ g HN.out HG1.out).mono ?_
  rintro e w' ⟨bl, rfl, hbl, rfl⟩
  cases bl with
  | false =>
    clear hbl
    go_wp2_with fail
    refine (known12_any _).mono ?_
    rintro e w9 ⟨rfl, b9⟩
    have HB99 := Lib.hid (to_ HB0.out b9)
    clear b9
    go_wp2_with fail
    go_ret
    exact ⟨rfl, HB99.out⟩
  | true =>
    have hs := hbl rfl
    clear hbl
    by_cases hm : (40 : Int) < (M : Int)
    · have ehm : decide ((40 : Int) < (M : Int)) = true := decide_eq_true (by omega)
      go_wp2_with fail
      refine (known12_any _).mono ?_
      rintro e w9 ⟨rfl, b9⟩
      have HB99 := Lib.hid (to_ HB0.out b9)
      clear b9
      go_wp2_with fail
      go_ret
      exact ⟨rfl, HB99.out⟩
    · skip
      by_cases hk : (40 : Int) < (K : Int)
      · have ehk : decide ((40 : Int) < (K : Int)) = true := decide_eq_true (by omega)
        have ehm : decide ((40 : Int) < (M : Int)) = false := decide_eq_false (by omega)
        go_wp2_with fail
        refine (known12_any _).mono ?_
        rintro e w9 ⟨rfl, b9⟩
        have HB99 := Lib.hid (to_ HB0.out b9)
        clear b9
        go_wp2_with fail
        go_ret
        exact ⟨rfl, HB99.out⟩
      · skip
        have ehm : decide ((40 : Int) < (M : Int)) = false := decide_eq_false (by omega)
        have ehk : decide ((40 : Int) < (K : Int)) = false := decide_eq_false (by omega)
        have HS := Lib.hid hs
        have HN24 := Lib.hid (show N ≤ 24 from HN.out ▸ hs.1)
        have hK40 : K ≤ 40 := by omega
        obtain ⟨_, n00, n01, n02⟩ := HC1.out
        clear hs hm hk
        go_wp2_with fail
        go_loopw [9] (fun i wr => ∃ j : Nat, j ≤ K ∧ i = .int .i64 (j : Int) ∧ (∀ q, q < j → 0 ≤ el own q ∧ el own q ≤ 5000) ∧ wa = wr) (fun i _ => K - (intOf i).toNat)
        case atStart => exact ⟨0, by omega, rfl, fun q hq => by omega, rfl⟩
        case round =>
          obtain ⟨j, hj, rfl, h5, rfl⟩ := hrel
          have H5 := Lib.hid h5
          clear h5
          by_cases hjk : j < K
          · have HJK := Lib.hid hjk
            obtain ⟨ad3, hA3, hco⟩ := HO1.out.at_ HK.out hjk
            subst hA3
            obtain ⟨o, ho⟩ : ∃ o, el own j = o := ⟨_, rfl⟩
            rw [ho] at hco
            have HOJ := Lib.hid ho
            have hjI : (j : Int) < (K : Int) := by omega
            have hj0 : (0 : Int) ≤ (j : Int) := by omega
            clear ho hj
            by_cases h0 : o < 0
            · have eh0 : decide (o < 0) = true := decide_eq_true (by omega)
              go_wp2_with fail
              refine (known12_any _).mono ?_
              rintro e w9 ⟨rfl, b9⟩
              have HB99 := Lib.hid (to_ HB0.out b9)
              clear b9
              go_wp2_with fail
              go_ret
              exact ⟨rfl, HB99.out⟩
            · skip
              by_cases h5 : (5000 : Int) < o
              · have eh5 : decide ((5000 : Int) < o) = true := decide_eq_true (by omega)
                have eh0 : decide (o < 0) = false := decide_eq_false (by omega)
                go_wp2_with fail
                refine (known12_any _).mono ?_
                rintro e w9 ⟨rfl, b9⟩
                have HB99 := Lib.hid (to_ HB0.out b9)
                clear b9
                go_wp2_with fail
                go_ret
                exact ⟨rfl, HB99.out⟩
              · skip
                have eh0 : decide (o < 0) = false := decide_eq_false (by omega)
                have eh5 : decide ((5000 : Int) < o) = false := decide_eq_false (by omega)
                have HO5 := Lib.hid (show 0 ≤ o ∧ o ≤ 5000 by omega)
                go_wp2_with fail
                go_roundw
                case rel => exact ⟨j + 1, by have := HJK.out; omega, by go_num, fun q hq => by
                  rcases Nat.lt_or_ge q j with h9 | h9
                  · exact H5.out q h9
                  · obtain rfl : q = j := by omega
                    rw [HOJ.out]; exact HO5.out, by first | rfl | trivial⟩
                case measure => have := HJK.out; simp [intOf]; omega
          · obtain rfl : j = K := by omega
            clear hj hjk
            have HSM := Lib.hid (show Sm own from fun t ht => H5.out t (by rw [← HK.out]; exact ht))
            clear H5
            by_cases hx0 : x < 0
            · have ehx0 : decide (x < 0) = true := decide_eq_true (by omega)
              go_wp2_with fail
              refine (known12_any _).mono ?_
              rintro e w9 ⟨rfl, b9⟩
              have HB99 := Lib.hid (to_ HB0.out b9)
              clear b9
              go_wp2_with fail
              go_ret
              exact ⟨rfl, HB99.out⟩
            · skip
              by_cases hx1 : (100 : Int) < x
              · have ehx1 : decide ((100 : Int) < x) = true := decide_eq_true (by omega)
                have ehx0 : decide (x < 0) = false := decide_eq_false (by omega)
                go_wp2_with fail
                refine (known12_any _).mono ?_
                rintro e w9 ⟨rfl, b9⟩
                have HB99 := Lib.hid (to_ HB0.out b9)
                clear b9
                go_wp2_with fail
                go_ret
                exact ⟨rfl, HB99.out⟩
              · skip
                by_cases hy0 : y < 0
                · have ehy0 : decide (y < 0) = true := decide_eq_true (by omega)
                  have ehx0 : decide (x < 0) = false := decide_eq_false (by omega)
                  have ehx1 : decide ((100 : Int) < x) = false := decide_eq_false (by omega)
                  go_wp2_with fail
                  refine (known12_any _).mono ?_
                  rintro e w9 ⟨rfl, b9⟩
                  have HB99 := Lib.hid (to_ HB0.out b9)
                  clear b9
                  go_wp2_with fail
                  go_ret
                  exact ⟨rfl, HB99.out⟩
                · skip
                  by_cases hy1 : (100 : Int) < y
                  · have ehy1 : decide ((100 : Int) < y) = true := decide_eq_true (by omega)
                    have ehx0 : decide (x < 0) = false := decide_eq_false (by omega)
                    have ehx1 : decide ((100 : Int) < x) = false := decide_eq_false (by omega)
                    have ehy0 : decide (y < 0) = false := decide_eq_false (by omega)
                    go_wp2_with fail
                    refine (known12_any _).mono ?_
                    rintro e w9 ⟨rfl, b9⟩
                    have HB99 := Lib.hid (to_ HB0.out b9)
                    clear b9
                    go_wp2_with fail
                    go_ret
                    exact ⟨rfl, HB99.out⟩
                  · skip
                    have ehx0 : decide (x < 0) = false := decide_eq_false (by omega)
                    have ehx1 : decide ((100 : Int) < x) = false := decide_eq_false (by omega)
                    have ehy0 : decide (y < 0) = false := decide_eq_false (by omega)
                    have ehy1 : decide ((100 : Int) < y) = false := decide_eq_false (by omega)
                    have HX := Lib.hid (show 0 ≤ x ∧ x ≤ 100 by omega)
                    have HY := Lib.hid (show 0 ≤ y ∧ y ≤ 100 by omega)
                    obtain ⟨L1, hL1⟩ : ∃ L1, ((depV g ins own x y).getD []).length = L1 := ⟨_, rfl⟩
                    obtain ⟨L2, hL2⟩ : ∃ L2, (worI g ins own x y z).length = L2 := ⟨_, rfl⟩
                    have HS2 := Lib.hid (show L2 ≤ 25 by rw [← hL2]; have := worI_few (g := g) (ins := ins) (own := own) (r := x) (s := y) (a := z); have := HS.out.1; omega)
                    have HD1 := Lib.hid (fun w A A2 A3 c c2 c3 h hI hO => depths_w w A A2 A3 c c2 c3 N M j L1 g ins own x y HN.out HM.out HK.out hL1 h hI hO HS.out)
                    have HW1 := Lib.hid (fun w A A2 A3 c c2 c3 h hI hO => worst_any w A A2 A3 c c2 c3 N M j L2 g ins own x y z HN.out HM.out HK.out hL2 h hI hO HS.out)
                    have HWR := Lib.hid (way_right (g := g) (ins := ins) (own := own) (r := x) (s := y) (z := z) HS.out.1 HSM.out HX.out HY.out)
                    have HLA := Lib.hid (fun hx => depV_len (g := g) (ins := ins) (own := own) (r := x) (s := y) hx)
                    rw [hL1] at HLA
                    rw [HN.out] at HLA HWR
                    have HL1 := Lib.hid hL1
                    have HL2 := Lib.hid hL2
                    clear hL1 hL2 hx0 hx1 hy0 hy1
                    generalize (depV g ins own x y).getD [] = l1 at HD1 HL1 HWR
                    generalize (depV g ins own x y).isSome = x1 at HD1 HWR HLA
                    generalize worI g ins own x y z = l2 at HW1 HL2 HWR
                    go_wp2_with fail
                    go_wp2_with fail
                    refine (HD1.out _ _ _ _ _ _ _ HG1.out HI1.out HO1.out).mono ?_
                    rintro e w1 ⟨X1, y1, rfl, h1, b1⟩
                    have Ra1 := Lib.hid (h1)
                    have Rg1 := Lib.hid (HG1.out.on b1)
                    have Rm1 := Lib.hid (HI1.out.on b1)
                    have Ro1 := Lib.hid (HO1.out.on b1)
                    have Rn1 := Lib.hid (HC1.out.on b1)
                    have HB1 := Lib.hid (to_ HB0.out b1)
                    clear b1 h1 HG1 HI1 HO1 HC1 HB0
                    obtain ⟨_, n10, n11, n12⟩ := Rn1.out
                    go_wp2_with fail
                    refine (HW1.out _ _ _ _ _ _ _ Rg1.out Rm1.out Ro1.out).mono ?_
                    rintro e w2 ⟨X2, y2, rfl, h2, b2⟩
                    have Rb2 := Lib.hid (h2)
                    have Ra2 := Lib.hid (Ra1.out.on b2)
                    have Rg2 := Lib.hid (Rg1.out.on b2)
                    have Rm2 := Lib.hid (Rm1.out.on b2)
                    have Ro2 := Lib.hid (Ro1.out.on b2)
                    have Rn2 := Lib.hid (Rn1.out.on b2)
                    have HB2 := Lib.hid (to_ HB1.out b2)
                    clear b2 h2 Ra1 Rg1 Rm1 Ro1 Rn1 HB1
                    obtain ⟨_, n20, n21, n22⟩ := Rn2.out
                    clear n00 n01 n02 n10 n11 n12
                    cases x1 with
                    | false =>
                      have hl0 := HWR.out.1 (.inl rfl)
                      have hL0 : L2 = 0 := by rw [← HL2.out, hl0]; rfl
                      subst hL0
                      clear hl0
                      go_wp2_with fail
                      refine (known12_any _).mono ?_
                      rintro e w9 ⟨rfl, b9⟩
                      have HB99 := Lib.hid (to_ HB2.out b9)
                      clear b9
                      go_wp2_with fail
                      go_ret
                      exact ⟨rfl, HB99.out⟩
                    | true =>
                      obtain rfl : L1 = N := HLA.out rfl
                      by_cases hz0 : z < 0
                      · have ez0 : decide (z < 0) = true := decide_eq_true hz0
                        have hl0 := HWR.out.1 (.inr (.inl hz0))
                        have hL0 : L2 = 0 := by rw [← HL2.out, hl0]; rfl
                        subst hL0
                        clear hl0
                        go_wp2_with fail
                        refine (known12_any _).mono ?_
                        rintro e w9 ⟨rfl, b9⟩
                        have HB99 := Lib.hid (to_ HB2.out b9)
                        clear b9
                        go_wp2_with fail
                        go_ret
                        exact ⟨rfl, HB99.out⟩
                      · have ez0 : decide (z < 0) = false := decide_eq_false hz0
                        by_cases hz1 : (L1 : Int) ≤ z
                        · have ez1 : decide ((L1 : Int) ≤ z) = true := decide_eq_true hz1
                          have hl0 := HWR.out.1 (.inr (.inr hz1))
                          have hL0 : L2 = 0 := by rw [← HL2.out, hl0]; rfl
                          subst hL0
                          clear hl0
                          go_wp2_with fail
                          refine (known12_any _).mono ?_
                          rintro e w9 ⟨rfl, b9⟩
                          have HB99 := Lib.hid (to_ HB2.out b9)
                          clear b9
                          go_wp2_with fail
                          go_ret
                          exact ⟨rfl, HB99.out⟩
                        · have ez1 : decide ((L1 : Int) ≤ z) = false := decide_eq_false hz1
                          obtain ⟨ws, hws, hin, hcost⟩ := HWR.out.2 rfl (by omega) (by omega)
                          obtain ⟨a, rfl⟩ : ∃ a : Nat, z = (a : Int) := ⟨z.toNat, by omega⟩
                          rw [Int.toNat_natCast] at hws hin hcost
                          have haN : a < L1 := by omega
                          have HAN := Lib.hid haN
                          obtain ⟨W, hW⟩ : ∃ W, a :: ws = W := ⟨_, rfl⟩
                          have HW0 := Lib.hid (show W.getD 0 0 = a by rw [← hW]; rfl)
                          have hWl : 0 < W.length := by rw [← hW]; exact Nat.succ_pos _
                          rw [hW] at hws hin hcost
                          subst hws
                          have hcl : (coI W).length = W.length := by unfold coI; rw [List.length_map]
                          have HWL := Lib.hid (show W.length = L2 from hcl.symm.trans HL2.out)
                          have HL0 := Lib.hid (show 0 < L2 by rw [← HWL.out]; exact hWl)
                          have HIN := Lib.hid hin
                          obtain ⟨dv, hdv⟩ : ∃ dv, el l1 a = dv := ⟨_, rfl⟩
                          rw [hdv] at hcost
                          have HEND := Lib.hid (show cstW ins own x y W L2 = dv by rw [← HWL.out, cst_end hWl]; exact hcost)
                          have HDV := Lib.hid hdv
                          have hz2 : ¬ (a : Int) < 0 := hz0
                          have hz3 : ¬ (L1 : Int) ≤ (a : Int) := hz1
                          have hzN : (L1 ≤ a) = False := eq_false (by omega)
                          clear hW hWl hin hcost hcl hdv hz0 hz1 haN HWR
                          go_wp2_with fail
                          go_loopw [13, 14] (fun cc i wr => ∃ q : Nat, q ≤ L2 ∧ i = .int .i64 (q : Int) ∧ cc = .int .i64 (cstW ins own x y W q) ∧ w2 = wr) (fun _ i _ => L2 - (intOf i).toNat)
                          case atStart => exact ⟨0, Nat.zero_le _, rfl, rfl, rfl⟩
                          case round =>
                            obtain ⟨q, hq, rfl, rfl, rfl⟩ := hrel
                            by_cases hql : q < L2
                            · have HQL := Lib.hid hql
                              obtain ⟨ad4, hA4, hcw⟩ := Rb2.out.at_ HL2.out hql
                              subst hA4
                              have hqW : q < W.length := by rw [HWL.out]; exact hql
                              rw [coI_at hqW] at hcw
                              have hcn := cst_next (ins := ins) (own := own) (r := x) (s := y) hqW
                              have hco2 := cst_ok (ins := ins) (W := W) HSM.out HX.out HY.out q (by omega)
                              have hpc := pcV_ok (ins := ins) HSM.out HX.out (W.getD q 0)
                              have hpN : W.getD q 0 < L1 := by
                                have h9 := HIN.out (W.getD q 0) (by rw [List.getD_eq_getElem?_getD, List.getElem?_eq_getElem hqW]; exact List.getElem_mem hqW)
                                exact h9
                              generalize W.getD q 0 = p at hcw hcn hpc hpN
                              have HCN := Lib.hid hcn
                              obtain ⟨cv, hcv⟩ : ∃ cv, cstW ins own x y W q = cv := ⟨_, rfl⟩
                              rw [hcv] at hco2 HCN ⊢
                              have HMB := Lib.hid (rmember_any w2 _ L1 M c c2 A A2 ins (p : Int) HM.out Rm2.out)
                              rw [rmemV_nat hpN] at HMB
                              have hs2 := HS2.out
                              have hcb : 0 ≤ cv ∧ cv ≤ 200000 := by omega
                              have hxx := HX.out
                              have hyy := HY.out
                              obtain ⟨m, hm⟩ : ∃ m, memV ins p = m := ⟨_, rfl⟩
                              unfold pcV at HCN
                              rw [hm, HK.out] at HCN
                              rw [hm] at HMB
                              have hqI : (q : Int) < (L2 : Int) := by omega
                              have hq0 : (0 : Int) ≤ (q : Int) := by omega
                              clear hcn hpc hcv hm hqW hq hco2
                              by_cases hqz : q = 0
                              · have eq0 : decide ((0 : Int) < (q : Int)) = false := decide_eq_false (by omega)
                                have hqN : (0 < q) = False := eq_false (by omega)
                                cases m with
                                | false =>
                                  have hwb : IntKind.i64.wrap (cv + x) = cv + x := IntWalk.i64_in _ ⟨by omega, by omega⟩
                                  have HNEW := Lib.hid (show cstW ins own x y W (q + 1) = cv + x from by have h9 := HCN.out; rw [if_pos hqz, if_neg (by decide)] at h9; omega)
                                  clear hql hqz
                                  go_wp2_with (go_at_call 23; refine HMB.out.mono ?_; rintro e w9 ⟨rfl, rfl⟩)
                                  first
                                    | (go_roundw
                                       case rel => exact ⟨q + 1, by have := HQL.out; omega, by go_num, by rw [HNEW.out], by first | rfl | trivial⟩
                                       case measure => have := HQL.out; simp [intOf]; omega)
                                    | (refine ⟨?_, ?_⟩
                                       · first
                                           | exact ⟨q + 1, by have := HQL.out; omega, by go_num, by rw [HNEW.out], by first | rfl | trivial⟩
                                           | exact ⟨q + 1, by have := HQL.out; omega, by go_num, by rw [HNEW.out]⟩
                                           | (refine ⟨q + 1, ?_⟩; have := HQL.out; simp [HNEW.out]; omega)
                                       · have := HQL.out; simp [intOf]; omega)
                                    | (trace_state; fail)
                                | true =>
                                  by_cases hpK : p < j
                                  · obtain ⟨ad3, hA3, hco⟩ := Ro2.out.at_ HK.out hpK
                                    subst hA3
                                    have ho5 := HSM.out p (by rw [HK.out]; exact hpK)
                                    rw [if_pos rfl, if_pos hpK] at HCN
                                    generalize el own p = o at hco HCN ho5
                                    have hpI : (p : Int) < (j : Int) := by omega
                                    have epI : decide ((p : Int) < (j : Int)) = true := decide_eq_true hpI
                                    have epN : (p < j) = True := eq_true hpK
                                    have hp0 : (0 : Int) ≤ (p : Int) := by omega
                                    have hwb : IntKind.i64.wrap (cv + o) = cv + o := IntWalk.i64_in _ ⟨by omega, by omega⟩
                                    have HNEW := Lib.hid (show cstW ins own x y W (q + 1) = cv + o from by have h9 := HCN.out; rw [if_pos hqz] at h9; omega)
                                    clear hql hqz
                                    go_wp2_with (go_at_call 23; refine HMB.out.mono ?_; rintro e w9 ⟨rfl, rfl⟩)
                                    first
                                      | (go_roundw
                                         case rel => exact ⟨q + 1, by have := HQL.out; omega, by go_num, by rw [HNEW.out], by first | rfl | trivial⟩
                                         case measure => have := HQL.out; simp [intOf]; omega)
                                      | (refine ⟨?_, ?_⟩
                                         · first
                                             | exact ⟨q + 1, by have := HQL.out; omega, by go_num, by rw [HNEW.out], by first | rfl | trivial⟩
                                             | exact ⟨q + 1, by have := HQL.out; omega, by go_num, by rw [HNEW.out]⟩
                                             | (refine ⟨q + 1, ?_⟩; have := HQL.out; simp [HNEW.out]; omega)
                                         · have := HQL.out; simp [intOf]; omega)
                                      | (trace_state; fail)
                                  · have hpI : ¬ (p : Int) < (j : Int) := by omega
                                    have epI : decide ((p : Int) < (j : Int)) = false := decide_eq_false hpI
                                    have epN : (p < j) = False := eq_false hpK
                                    rw [if_pos rfl, if_neg hpK] at HCN
                                    have HNEW := Lib.hid (show cstW ins own x y W (q + 1) = cv from by have h9 := HCN.out; rw [if_pos hqz] at h9; omega)
                                    clear hql hqz
                                    go_wp2_with (go_at_call 23; refine HMB.out.mono ?_; rintro e w9 ⟨rfl, rfl⟩)
                                    first
                                      | (go_roundw
                                         case rel => exact ⟨q + 1, by have := HQL.out; omega, by go_num, by rw [HNEW.out], by first | rfl | trivial⟩
                                         case measure => have := HQL.out; simp [intOf]; omega)
                                      | (refine ⟨?_, ?_⟩
                                         · first
                                             | exact ⟨q + 1, by have := HQL.out; omega, by go_num, by rw [HNEW.out], by first | rfl | trivial⟩
                                             | exact ⟨q + 1, by have := HQL.out; omega, by go_num, by rw [HNEW.out]⟩
                                             | (refine ⟨q + 1, ?_⟩; have := HQL.out; simp [HNEW.out]; omega)
                                         · have := HQL.out; simp [intOf]; omega)
                                      | (trace_state; fail)
                              · have eq0 : decide ((0 : Int) < (q : Int)) = true := decide_eq_true (by omega)
                                have hqN : (0 < q) = True := eq_true (by omega)
                                cases m with
                                | false =>
                                  have hwa : IntKind.i64.wrap (cv + y) = cv + y := IntWalk.i64_in _ ⟨by omega, by omega⟩
                                  have hwb : IntKind.i64.wrap (cv + y + x) = cv + y + x := IntWalk.i64_in _ ⟨by omega, by omega⟩
                                  have HNEW := Lib.hid (show cstW ins own x y W (q + 1) = cv + y + x from by have h9 := HCN.out; rw [if_neg hqz, if_neg (by decide)] at h9; omega)
                                  clear hql hqz
                                  go_wp2_with (go_at_call 23; refine HMB.out.mono ?_; rintro e w9 ⟨rfl, rfl⟩)
                                  first
                                    | (go_roundw
                                       case rel => exact ⟨q + 1, by have := HQL.out; omega, by go_num, by rw [HNEW.out], by first | rfl | trivial⟩
                                       case measure => have := HQL.out; simp [intOf]; omega)
                                    | (refine ⟨?_, ?_⟩
                                       · first
                                           | exact ⟨q + 1, by have := HQL.out; omega, by go_num, by rw [HNEW.out], by first | rfl | trivial⟩
                                           | exact ⟨q + 1, by have := HQL.out; omega, by go_num, by rw [HNEW.out]⟩
                                           | (refine ⟨q + 1, ?_⟩; have := HQL.out; simp [HNEW.out]; omega)
                                       · have := HQL.out; simp [intOf]; omega)
                                    | (trace_state; fail)
                                | true =>
                                  by_cases hpK : p < j
                                  · obtain ⟨ad3, hA3, hco⟩ := Ro2.out.at_ HK.out hpK
                                    subst hA3
                                    have ho5 := HSM.out p (by rw [HK.out]; exact hpK)
                                    rw [if_pos rfl, if_pos hpK] at HCN
                                    generalize el own p = o at hco HCN ho5
                                    have hpI : (p : Int) < (j : Int) := by omega
                                    have epI : decide ((p : Int) < (j : Int)) = true := decide_eq_true hpI
                                    have epN : (p < j) = True := eq_true hpK
                                    have hp0 : (0 : Int) ≤ (p : Int) := by omega
                                    have hwa : IntKind.i64.wrap (cv + y) = cv + y := IntWalk.i64_in _ ⟨by omega, by omega⟩
                                    have hwb : IntKind.i64.wrap (cv + y + o) = cv + y + o := IntWalk.i64_in _ ⟨by omega, by omega⟩
                                    have HNEW := Lib.hid (show cstW ins own x y W (q + 1) = cv + y + o from by have h9 := HCN.out; rw [if_neg hqz] at h9; omega)
                                    clear hql hqz
                                    go_wp2_with (go_at_call 23; refine HMB.out.mono ?_; rintro e w9 ⟨rfl, rfl⟩)
                                    first
                                      | (go_roundw
                                         case rel => exact ⟨q + 1, by have := HQL.out; omega, by go_num, by rw [HNEW.out], by first | rfl | trivial⟩
                                         case measure => have := HQL.out; simp [intOf]; omega)
                                      | (refine ⟨?_, ?_⟩
                                         · first
                                             | exact ⟨q + 1, by have := HQL.out; omega, by go_num, by rw [HNEW.out], by first | rfl | trivial⟩
                                             | exact ⟨q + 1, by have := HQL.out; omega, by go_num, by rw [HNEW.out]⟩
                                             | (refine ⟨q + 1, ?_⟩; have := HQL.out; simp [HNEW.out]; omega)
                                         · have := HQL.out; simp [intOf]; omega)
                                      | (trace_state; fail)
                                  · have hpI : ¬ (p : Int) < (j : Int) := by omega
                                    have epI : decide ((p : Int) < (j : Int)) = false := decide_eq_false hpI
                                    have epN : (p < j) = False := eq_false hpK
                                    rw [if_pos rfl, if_neg hpK] at HCN
                                    have hwa : IntKind.i64.wrap (cv + y) = cv + y := IntWalk.i64_in _ ⟨by omega, by omega⟩
                                    have HNEW := Lib.hid (show cstW ins own x y W (q + 1) = cv + y from by have h9 := HCN.out; rw [if_neg hqz] at h9; omega)
                                    clear hql hqz
                                    go_wp2_with (go_at_call 23; refine HMB.out.mono ?_; rintro e w9 ⟨rfl, rfl⟩)
                                    first
                                      | (go_roundw
                                         case rel => exact ⟨q + 1, by have := HQL.out; omega, by go_num, by rw [HNEW.out], by first | rfl | trivial⟩
                                         case measure => have := HQL.out; simp [intOf]; omega)
                                      | (refine ⟨?_, ?_⟩
                                         · first
                                             | exact ⟨q + 1, by have := HQL.out; omega, by go_num, by rw [HNEW.out], by first | rfl | trivial⟩
                                             | exact ⟨q + 1, by have := HQL.out; omega, by go_num, by rw [HNEW.out]⟩
                                             | (refine ⟨q + 1, ?_⟩; have := HQL.out; simp [HNEW.out]; omega)
                                         · have := HQL.out; simp [intOf]; omega)
                                      | (trace_state; fail)
                            · obtain rfl : q = L2 := by omega
                              clear hq hql
                              rw [HEND.out]
                              obtain ⟨ad4, hA4, hcw⟩ := Rb2.out.at_ HL2.out HL0.out
                              obtain ⟨ad5, hA5, hcd⟩ := Ra2.out.at_ HL1.out HAN.out
                              subst hA4 hA5
                              clear hcw hcd
                              have HCELL := Lib.hid (show ∀ w9, Below w2.heap.size w2 w9 → w9.cell? ⟨w.heap.size, 2, none⟩ = some (.int .i64 (a : Int)) ∧ w9.cell? ad4 = some (.int .i64 (a : Int)) ∧ w9.cell? (ad5.add a) = some (.int .i64 dv) from fun w9 b => ⟨(Rn2.out.on b).2.2.2, by
                                have h9 := IW.cell_on Rb2.out HL2.out HL0.out b
                                rw [coI_at (by rw [HWL.out]; exact HL0.out), HW0.out] at h9
                                exact h9, by
                                have h9 := IW.cell_on Ra2.out HL1.out HAN.out b
                                rw [HDV.out] at h9
                                exact h9⟩)
                              have hlI : (0 : Int) < (q : Int) := by have := HL0.out; omega
                              have elI : decide ((0 : Int) < (q : Int)) = true := decide_eq_true hlI
                              have hlN : 0 < q := HL0.out
                              have elN : decide (0 < q) = true := decide_eq_true hlN
                              have haI : (a : Int) < (L1 : Int) := by have := HAN.out; omega
                              have ha0 : (0 : Int) ≤ (a : Int) := by omega
                              clear n20 n21 n22
                              go_wp2_with fail
                              have D2 := Lib.hid (show Below w2.heap.size w2 w2.drew from (Below.refl _ _).drew)
                              refine wp_region_noPanic ?_
                              refine wp_region_held_drew (S := fun W9 => W9.cell? ⟨w.heap.size, 2, none⟩ = some (.int .i64 (a : Int)) ∧ W9.cell? ad4 = some (.int .i64 (a : Int)) ∧ W9.cell? (ad5.add a) = some (.int .i64 dv)) (by kernel_rfl) (HCELL.out _ D2.out) (fun hHeld => ?_)
                              refine wpAnyH_take (i := 0) rfl (by kernel_rfl) (by kernel_rfl) (by kernel_rfl) (fun _ _ _ h => h) (Or.inl ⟨by rfl, by intro W hSW; (try dsimp only at hSW); go_simp; try (with_reducible rfl)⟩) hHeld ?_
                              try simp only [Act.put, List.getElem_toArray, List.getElem_cons_zero, List.getElem_cons_succ, List.setIfInBounds_toArray, List.set_cons_zero, List.set_cons_succ]
                              refine wpAnyH_take (i := 1) rfl (by kernel_rfl) (by kernel_rfl) (by kernel_rfl) (fun _ _ _ h => h) (Or.inl ⟨by rfl, by intro W hSW; (try dsimp only at hSW); go_simp; try (with_reducible rfl)⟩) hHeld ?_
                              try simp only [Act.put, List.getElem_toArray, List.getElem_cons_zero, List.getElem_cons_succ, List.setIfInBounds_toArray, List.set_cons_zero, List.set_cons_succ]
                              refine wpAnyH_take (i := 2) rfl (by kernel_rfl) (by kernel_rfl) (by kernel_rfl) (fun _ _ _ h => h) (Or.inl ⟨by rfl, by intro W hSW; (try dsimp only at hSW); go_simp; try (with_reducible rfl)⟩) hHeld ?_
                              try simp only [Act.put, List.getElem_toArray, List.getElem_cons_zero, List.getElem_cons_succ, List.setIfInBounds_toArray, List.set_cons_zero, List.set_cons_succ]
                              refine wpAnyH_take (i := 3) rfl (by kernel_rfl) (by kernel_rfl) (by kernel_rfl) (fun _ _ _ h => h) (Or.inl ⟨by rfl, by intro W hSW; (try dsimp only at hSW); go_simp; try (with_reducible rfl)⟩) hHeld ?_
                              try simp only [Act.put, List.getElem_toArray, List.getElem_cons_zero, List.getElem_cons_succ, List.setIfInBounds_toArray, List.set_cons_zero, List.set_cons_succ]
                              refine wpAnyH_take (i := 4) rfl (by kernel_rfl) (by kernel_rfl) (by kernel_rfl) (fun _ _ _ h => h) (Or.inl ⟨by rfl, by intro W hSW; (try dsimp only at hSW); go_simp; try (with_reducible rfl)⟩) hHeld ?_
                              try simp only [Act.put, List.getElem_toArray, List.getElem_cons_zero, List.getElem_cons_succ, List.setIfInBounds_toArray, List.set_cons_zero, List.set_cons_succ]
                              refine wpAnyH_take (i := 5) rfl (by kernel_rfl) (by kernel_rfl) (by kernel_rfl) (fun _ _ _ h => h) (Or.inl ⟨by rfl, by intro W hSW; (try dsimp only at hSW); go_simp; try (with_reducible rfl)⟩) hHeld ?_
                              try simp only [Act.put, List.getElem_toArray, List.getElem_cons_zero, List.getElem_cons_succ, List.setIfInBounds_toArray, List.set_cons_zero, List.set_cons_succ]
                              refine wpAnyH_take (i := 6) rfl (by kernel_rfl) (by kernel_rfl) (by kernel_rfl) (fun _ _ _ h => h) (Or.inl ⟨by rfl, by intro W hSW; (try dsimp only at hSW); go_simp; try (with_reducible rfl)⟩) hHeld ?_
                              try simp only [Act.put, List.getElem_toArray, List.getElem_cons_zero, List.getElem_cons_succ, List.setIfInBounds_toArray, List.set_cons_zero, List.set_cons_succ]
                              refine wpAnyH_take (i := 7) rfl (by kernel_rfl) (by kernel_rfl) (by kernel_rfl) (fun _ _ _ h => h) (Or.inl ⟨by rfl, by intro W hSW; (try dsimp only at hSW); go_simp; try (with_reducible rfl)⟩) hHeld ?_
                              try simp only [Act.put, List.getElem_toArray, List.getElem_cons_zero, List.getElem_cons_succ, List.setIfInBounds_toArray, List.set_cons_zero, List.set_cons_succ]
                              refine wpAnyH_take (i := 8) rfl (by kernel_rfl) (by kernel_rfl) (by kernel_rfl) (fun _ _ _ h => h) (Or.inl ⟨by rfl, by intro W hSW; (try dsimp only at hSW); go_simp; try (with_reducible rfl)⟩) hHeld ?_
                              try simp only [Act.put, List.getElem_toArray, List.getElem_cons_zero, List.getElem_cons_succ, List.setIfInBounds_toArray, List.set_cons_zero, List.set_cons_succ]
                              refine wpAnyH_take (i := 9) rfl (by kernel_rfl) (by kernel_rfl) (by kernel_rfl) (fun _ _ _ h => h) (Or.inl ⟨by rfl, by intro W hSW; (try dsimp only at hSW); go_simp; try (with_reducible rfl)⟩) hHeld ?_
                              try simp only [Act.put, List.getElem_toArray, List.getElem_cons_zero, List.getElem_cons_succ, List.setIfInBounds_toArray, List.set_cons_zero, List.set_cons_succ]
                              refine wpAnyH_take (i := 10) rfl (by kernel_rfl) (by kernel_rfl) (by kernel_rfl) (fun _ _ _ h => h) (Or.inl ⟨by rfl, by intro W hSW; (try dsimp only at hSW); go_simp; try (with_reducible rfl)⟩) hHeld ?_
                              try simp only [Act.put, List.getElem_toArray, List.getElem_cons_zero, List.getElem_cons_succ, List.setIfInBounds_toArray, List.set_cons_zero, List.set_cons_succ]
                              refine wpAnyH_take (i := 11) rfl (by kernel_rfl) (by kernel_rfl) (by kernel_rfl) (fun _ _ _ h => h) (Or.inl ⟨by rfl, by intro W hSW; (try dsimp only at hSW); go_simp; try (with_reducible rfl)⟩) hHeld ?_
                              try simp only [Act.put, List.getElem_toArray, List.getElem_cons_zero, List.getElem_cons_succ, List.setIfInBounds_toArray, List.set_cons_zero, List.set_cons_succ]
                              refine wpAnyH_take (i := 12) rfl (by kernel_rfl) (by kernel_rfl) (by kernel_rfl) (fun _ _ _ h => h) (Or.inl ⟨by rfl, by intro W hSW; (try dsimp only at hSW); go_simp; try (with_reducible rfl)⟩) hHeld ?_
                              try simp only [Act.put, List.getElem_toArray, List.getElem_cons_zero, List.getElem_cons_succ, List.setIfInBounds_toArray, List.set_cons_zero, List.set_cons_succ]
                              refine wpAnyH_take (i := 13) rfl (by kernel_rfl) (by kernel_rfl) (by kernel_rfl) (fun _ _ _ h => h) (Or.inl ⟨by rfl, by intro W hSW; (try dsimp only at hSW); go_simp; try (with_reducible rfl)⟩) hHeld ?_
                              try simp only [Act.put, List.getElem_toArray, List.getElem_cons_zero, List.getElem_cons_succ, List.setIfInBounds_toArray, List.set_cons_zero, List.set_cons_succ]
                              refine wpAnyH_take (i := 14) rfl (by kernel_rfl) (by kernel_rfl) (by kernel_rfl) (fun _ _ _ h => h) (Or.inl ⟨by rfl, by intro W hSW; (try dsimp only at hSW); go_simp; try (with_reducible rfl)⟩) hHeld ?_
                              try simp only [Act.put, List.getElem_toArray, List.getElem_cons_zero, List.getElem_cons_succ, List.setIfInBounds_toArray, List.set_cons_zero, List.set_cons_succ]
                              refine wpAnyH_take (i := 15) rfl (by kernel_rfl) (by kernel_rfl) (by kernel_rfl) (fun _ _ _ h => h) (Or.inl ⟨by rfl, by intro W hSW; (try dsimp only at hSW); go_simp; try (with_reducible rfl)⟩) hHeld ?_
                              try simp only [Act.put, List.getElem_toArray, List.getElem_cons_zero, List.getElem_cons_succ, List.setIfInBounds_toArray, List.set_cons_zero, List.set_cons_succ]
                              refine wpAnyH_take (i := 16) rfl (by kernel_rfl) (by kernel_rfl) (by kernel_rfl) (fun _ _ _ h => h) (Or.inl ⟨by rfl, by intro W hSW; (try dsimp only at hSW); go_simp; try (with_reducible rfl)⟩) hHeld ?_
                              try simp only [Act.put, List.getElem_toArray, List.getElem_cons_zero, List.getElem_cons_succ, List.setIfInBounds_toArray, List.set_cons_zero, List.set_cons_succ]
                              refine wpAnyH_take (i := 17) rfl (by kernel_rfl) (by kernel_rfl) (by kernel_rfl) (fun _ _ _ h => h) (Or.inl ⟨by rfl, by intro W hSW; (try dsimp only at hSW); go_simp; try (with_reducible rfl)⟩) hHeld ?_
                              try simp only [Act.put, List.getElem_toArray, List.getElem_cons_zero, List.getElem_cons_succ, List.setIfInBounds_toArray, List.set_cons_zero, List.set_cons_succ]
                              refine wpAnyH_take (i := 18) rfl (by kernel_rfl) (by kernel_rfl) (by kernel_rfl) (fun _ _ _ h => h) (Or.inl ⟨by rfl, by intro W hSW; (try dsimp only at hSW); go_simp; try (with_reducible rfl)⟩) hHeld ?_
                              try simp only [Act.put, List.getElem_toArray, List.getElem_cons_zero, List.getElem_cons_succ, List.setIfInBounds_toArray, List.set_cons_zero, List.set_cons_succ]
                              refine wpAnyH_take (i := 19) rfl (by kernel_rfl) (by kernel_rfl) (by kernel_rfl) (fun _ _ _ h => h) (Or.inl ⟨by rfl, by intro W hSW; (try dsimp only at hSW); go_simp; try (with_reducible rfl)⟩) hHeld ?_
                              try simp only [Act.put, List.getElem_toArray, List.getElem_cons_zero, List.getElem_cons_succ, List.setIfInBounds_toArray, List.set_cons_zero, List.set_cons_succ]
                              refine wpAnyH_take (i := 20) rfl (by kernel_rfl) (by kernel_rfl) (by kernel_rfl) (fun _ _ _ h => h) (Or.inl ⟨by rfl, by intro W hSW; (try dsimp only at hSW); go_simp; try (with_reducible rfl)⟩) hHeld ?_
                              try simp only [Act.put, List.getElem_toArray, List.getElem_cons_zero, List.getElem_cons_succ, List.setIfInBounds_toArray, List.set_cons_zero, List.set_cons_succ]
                              refine wpAnyH_ready (rs := [21]) (by kernel_rfl) (by simp) ?_
                              refine AllReadyH.cons rfl (fun K9 hK9 => ?_) AllReadyH.nil
                              go_simp
                              refine (known12_any _).mono ?_
                              rintro e w9 ⟨rfl, b9⟩
                              have HB99 := Lib.hid (to_ HB2.out (to_ D2.out b9))
                              try go_wp2_with fail
                              refine hK9.out _ _ (HCELL.out _ (to_ D2.out b9)) ?_
                              clear hK9 K9 hHeld b9
                              intro hHeld
                              try simp only [Act.put, List.getElem_toArray, List.getElem_cons_zero, List.getElem_cons_succ, List.setIfInBounds_toArray, List.set_cons_zero, List.set_cons_succ]
                              refine wpAnyH_take (i := 22) rfl (by kernel_rfl) (by kernel_rfl) (by kernel_rfl) (fun _ _ _ h => h) (Or.inl ⟨by rfl, by intro W hSW; (try dsimp only at hSW); go_simp; try (with_reducible rfl)⟩) hHeld ?_
                              try simp only [Act.put, List.getElem_toArray, List.getElem_cons_zero, List.getElem_cons_succ, List.setIfInBounds_toArray, List.set_cons_zero, List.set_cons_succ]
                              refine wpAnyH_take (i := 23) rfl (by kernel_rfl) (by kernel_rfl) (by kernel_rfl) (fun _ _ _ h => h) (Or.inl ⟨by rfl, by intro W hSW; (try dsimp only at hSW); go_simp; try (with_reducible rfl)⟩) hHeld ?_
                              try simp only [Act.put, List.getElem_toArray, List.getElem_cons_zero, List.getElem_cons_succ, List.setIfInBounds_toArray, List.set_cons_zero, List.set_cons_succ]
                              refine wpAnyH_done (by kernel_rfl) ?_ _
                              refine NoPanic.normal ?_
                              go_wp2_with fail
                              go_ret
                              exact ⟨rfl, HB99.out⟩
end Go.Proofs.Ytlfgnoicjogfpaa.By
