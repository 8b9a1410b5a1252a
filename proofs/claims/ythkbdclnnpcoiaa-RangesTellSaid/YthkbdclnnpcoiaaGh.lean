/-
  WALK: steps: what waits, and behind it more. WHAT walk TELLS: each place that is reached, the nearest first, and the one ahead of it.
-/
import Derived.Test.YthkbdclnnpcoiaaGc
import Derived.Shelf.Abstract
import Derived.OwnWalkIn
import Derived.TacticsInMore
import Derived.LoopNIn
import Derived.LoopIn
import Derived.Sort.LoopGhostIn
import Derived.StillTailTactics
namespace Go.Proofs.Ythkbdclnnpcoiaa.By
open Go.RowKit
open Mem Gm Rf

theorem infoS : (Try.prog.info? 66).map (fun i => (i.zero, i.size, i.bytes)) = some (some (.agg #[.int .i64 0, .int .i64 0]), 2, 16) := by kernel_rfl

/-- The cells of what waits: places, and those ahead of them. -/
def stepsC (q : List (Int × Int)) : List Value := q.flatMap fun s => [.int .i64 s.1, .int .i64 s.2]
theorem stepsC_append (q r : List (Int × Int)) : stepsC (q ++ r) = stepsC q ++ stepsC r := by simp [stepsC]
theorem stepsC_one (a b : Int) : stepsC [(a, b)] = [.int .i64 a, .int .i64 b] := rfl
theorem stepsC_cons (a b : Int) (q : List (Int × Int)) : stepsC ((a, b) :: q) = .int .i64 a :: .int .i64 b :: stepsC q := by simp [stepsC]
theorem stepsC_length (q : List (Int × Int)) : (stepsC q).length = q.length * 2 := by
  induction q with
  | nil => rfl
  | cons s q ih => obtain ⟨a, b⟩ := s; rw [stepsC_cons]; simp [ih]; omega

set_option maxHeartbeats 2000000 in
theorem steps_any (w : World) (L B : Nat) (v pv : Value) (q : List (Int × Int)) (ahead : Int) (ps : List Int) (hM : Mid w L 66 2 v q.length (stepsC q)) (hp : SlV w B pv (ints ps)) (hBL : B ≤ L) (hL : L ≤ w.heap.size) (hq : q.length ≤ 10000000) (hps : ps.length ≤ 10000000) :
    Calls Try.prog 38 #[v, .int .i64 ahead, pv] w fun e w' => ∃ v', e = .returned v' ∧ Mid w' L 66 2 v' (q.length + ps.length) (stepsC (q ++ ps.map fun p => (p, ahead))) ∧ Keeps (fun k => k < L) w w' := by
  obtain ⟨i0, hi, hz0, hz1, hz2⟩ := info_parts infoS
  obtain ⟨A, c, rfl⟩ := hp.form
  obtain ⟨N, hN⟩ : ∃ N, ps.length = N := ⟨_, rfl⟩
  have hl : (ints ps).length = N := by simp [ints, hN]
  rw [hl] at hp ⊢
  have hr := ints_row (l := ps) (by rw [hN]; exact hp)
  have h0 : Mid w L 66 2 v (q.length + 0) (stepsC (q ++ (ps.take 0).map fun p => (p, ahead))) := by simpa using hM
  have hall : q ++ (ps.take N).map (fun p => (p, ahead)) = q ++ ps.map fun p => (p, ahead) := by rw [← hN, List.take_length]
  rw [hN] at hps
  have HALL := Lib.hid hall
  have HN := Lib.hid hN
  have HR := Lib.hid hr
  clear hM hp hl hr hall hN
  go_enter Try.func38, Try.ntmps38
  go_wp2
  go_loopw [0, 11] (fun u i wr => ∃ k : Nat, k ≤ N ∧ i = .int .i64 k ∧ Mid wr L 66 2 u (q.length + k) (stepsC (q ++ (ps.take k).map fun p => (p, ahead))) ∧ Keeps (fun k => k < L) w wr) (fun _ i _ => N - (intOf i).toNat)
  case atStart => exact ⟨0, Nat.zero_le _, rfl, h0, Keeps.refl _ _⟩
  case round =>
    obtain ⟨k, hk, rfl, hM, hK⟩ := hrel
    by_cases hlt : k < N
    · have hr := HR.out
      have HNE : Hid (ps ≠ []) := fun e => by have := HN.out; rw [e] at this; simp at this; omega
      rcases hr with ⟨e, _⟩ | ⟨ad, rfl, hb, hc⟩
      · exact absurd e HNE.out
      have hcell := hK.cell (show (ad.add k).block < L by rw [add_block]; omega) (hc k (by rw [HN.out]; exact hlt))
      obtain ⟨p, hpe⟩ : ∃ p, el ps k = p := ⟨_, rfl⟩
      rw [hpe] at hcell
      have HX : Hid (stepsC (q ++ (ps.take k).map fun p => (p, ahead)) ++ [.int .i64 p, .int .i64 ahead] = stepsC (q ++ (ps.take (k + 1)).map fun p => (p, ahead))) := by
        show _ = _
        have hkl : k < ps.length := by rw [HN.out]; exact hlt
        rw [List.take_succ_eq_append_getElem hkl, List.map_append, ← List.append_assoc, stepsC_append (q ++ List.map (fun p => (p, ahead)) (List.take k ps)), el_at hkl, hpe]
        rfl
      have hnew : ∀ j u, [Value.int .i64 p, .int .i64 ahead][j]? = some u → (wr.alloc (.cells #[.int .i64 p, .int .i64 ahead] 66)).cell? ((⟨wr.heap.size, 0, none⟩ : Addr).add j) = some u := fun j u hu => by
        rw [add_plain, Nat.zero_add, (Blk.new wr _ _).cell]; simpa using hu
      have hMA := Lib.hid (hM.keep (w' := wr.alloc (.cells #[.int .i64 p, .int .i64 ahead] 66)) fun g _ hg => Below.heap_alloc _ _ _ hg)
      have HW := Lib.hid hnew
      have HLs := Lib.hid (show L ≤ (wr.alloc (.cells #[.int .i64 p, .int .i64 ahead] 66)).heap.size by have := hK.size; simp; omega)
      have HB1 := Lib.hid (show q.length + k + 1 ≤ maxLen by unfold maxLen; omega)
      have HB2 := Lib.hid (show (q.length + k + 1) * 16 ≤ 140737488355328 by omega)
      clear hM hnew hpe hc
      go_wp2_with (at_builtin; refine wpList_append_mid _ rfl _ _ 63 rfl 66 i0 (.agg #[.int .i64 0, .int .i64 0]) 2 16 Try.underlying63 hi hz0 hz1 hz2 rfl L _ _ _ rfl hMA.out ⟨wr.heap.size, 0, none⟩ 1 1 [.int .i64 p, .int .i64 ahead] rfl (by decide) rfl HW.out (by simp [Value.oneCell']) HB1.out HB2.out HLs.out ?_; intro v' w' row h2 h3 h4; have H2 := Lib.hid h2; have H3 := Lib.hid h3; have H4 := Lib.hid h4; clear h2 h3 h4)
      have hM2 := H2.out
      rw [HX.out] at hM2
      have hK2 : Keeps (fun k => k < L) w w' := (hK.alloc _).grown H3.out fun r e h => by have := H4.out r e; omega
      go_roundw
      case rel => exact ⟨k + 1, by omega, by go_num, hM2, hK2⟩
      case measure => simp [intOf]; omega
    · obtain rfl : k = N := by omega
      rw [HALL.out] at hM
      go_wp2
      go_ret
      exact ⟨_, rfl, by rw [HN.out]; exact hM, hK⟩
end Go.Proofs.Ythkbdclnnpcoiaa.By

namespace Go.Proofs.Ythkbdclnnpcoiaa.By
open Go.RowKit
open Mem Gm Rf
attribute [local go_sem] Oper.semAt_some

theorem infoB : (Try.prog.info? 4).map (fun i => (i.zero, i.size, i.bytes)) = some (some (.bool false), 1, 1) := by kernel_rfl

/-- The place ahead; -1: there is none. -/
def ahd : List Nat → Int
  | [] => -1
  | u :: _ => u
def sk (s : Int × List Nat) : Int × Int := (s.1, ahd s.2)
/-- Which places have been told. -/
def bools (n : Nat) (L : List (Nat × List Nat)) : Array Value := ((List.range n).map fun i => Value.bool ((L.map (·.1)).contains i)).toArray

theorem bools_at {n i : Nat} (L : List (Nat × List Nat)) (hi : i < n) : (bools n L)[i]? = some (.bool ((L.map (·.1)).contains i)) := by
  simp [bools, hi]
theorem bools_set {n a : Nat} (L : List (Nat × List Nat)) (t : List Nat) : (bools n L).setIfInBounds a (.bool true) = bools n (L ++ [(a, t)]) := by
  apply Array.ext
  · simp [bools]
  · intro i h1 h2
    have hi : i < n := by simpa [bools] using h2
    rw [Array.getElem_setIfInBounds (by simpa [bools] using hi)]
    by_cases e : a = i
    · subst e; simp [bools]
    · rw [if_neg e]
      simp [bools, Ne.symm e]
theorem bools_nil (n : Nat) : bools n [] = Array.replicate n (.bool false) := by
  apply Array.ext
  · simp [bools]
  · intro i h1 h2; simp [bools]

theorem make_bools (n : Nat) (hn : n ≤ 1000) (W : World) : (Instr.makeSlice 43 (.int .i64 (n : Int)) (.int .i64 (n : Int))).run Try.prog W = .ok (.slice (some ⟨W.heap.size, 0, none⟩) n n) (W.alloc (.cells (Array.replicate n (.bool false)) 4)) := by
  obtain ⟨i, hi, hz0, hz1, hz2⟩ := info_parts infoB
  have := run_make (P := Try.prog) W 43 4 i (.bool false) Try.underlying43 hi hz0 .i64 .i64 (n : Int) (n : Int) (by omega) (by omega) (by rw [hz2]; omega) (by omega)
  rw [this, hz1]
  simp only [Int.toNat_natCast, Nat.mul_one]
  have e : madeCells (Value.bool false).cells n = Array.replicate n (.bool false) := by
    apply Array.ext
    · simp [madeCells, Value.cells]
    · intro i h1 h2
      simp [madeCells, Value.cells, Nat.mod_one]
  rw [e]

theorem ne_of_D {D : Nat → Prop} {n b1 b2 k : Nat} (hD : ∀ k, D k → k < n) (h1 : b1 < n) (h2 : b2 < n) (h : D k ∨ k = b1 ∨ k = b2) : k ≠ n := by
  rcases h with h | rfl | rfl
  · have := hD k h; omega
  · omega
  · omega
theorem lt_of_D {D : Nat → Prop} {n b1 b2 k : Nat} (hD : ∀ k, D k → k < n) (h1 : b1 < n) (h2 : b2 < n) (h : D k ∨ k = b1 ∨ k = b2) : k < n + 1 := by
  rcases h with h | rfl | rfl
  · have := hD k h; omega
  · omega
  · omega

set_option maxRecDepth 100000 in
set_option maxHeartbeats 4000000 in
theorem walk1_in (n : Nat) (hn : 1 ≤ n) (l b1 b2 B : Nat) (D : Nat → Prop) (A A2 : Option Addr) (c c2 : Nat) (g : List (List Int)) (fs : List Int) (J Jx : List (Nat × List Nat) → World → Prop)
    (W : World) (hbox1 : W.cell? ⟨b1, 0, none⟩ = some (.slice A g.length c)) (hbox2 : W.cell? ⟨b2, 0, none⟩ = some (.slice A2 fs.length c2))
    (hG : ∀ X, Keeps D W X → Gr X B (.slice A g.length c) g) (hF : SlV W B (.slice A2 fs.length c2) (ints fs)) (hD : ∀ k, D k → k < W.heap.size) (hB : B ≤ W.heap.size) (hs : g.length ≤ 1000) (hm : fuel g fs.length ≤ 1000000)
    (hJ : ∀ s X Y, J s X → Keeps (fun k => k < W.heap.size) X Y → J s Y)
    (hY : ∀ pre x W1, J pre W1 → pre ++ [x] <+: told g fs → YieldAt Fence.wide (n - 1) Try.prog l #[.int .i64 (x.1 : Int), .int .i64 (ahd x.2)] W1 fun e W' =>
      (e = .returned (.bool true) ∧ J (pre ++ [x]) W' ∧ Keeps (fun k => (D k ∨ k = b1 ∨ k = b2) ∨ W.heap.size ≤ k) W1 W') ∨ (e = .returned (.bool false) ∧ Jx (pre ++ [x]) W'))
    (h0 : J [] W) :
    CallsIn Fence.wide n Try.prog 37 #[.func (.yield l) #[] #[], .pointer (some ⟨b1, 0, none⟩), .pointer (some ⟨b2, 0, none⟩)] W fun e W' => (∃ v, e = .returned v) ∧
      (J (told g fs) W' ∨ ∃ pre, pre <+: told g fs ∧ Jx pre W') := by
  obtain ⟨N, hN⟩ : ∃ N, g.length = N := ⟨_, rfl⟩
  have hlt1 := World.block_lt_of_cell? W _ hbox1
  have hlt2 := World.block_lt_of_cell? W _ hbox2
  have HN := Lib.hid hN
  have HG := Lib.hid hG
  have HY := Lib.hid hY
  have HJ := Lib.hid hJ
  have HM := Lib.hid hm
  rw [hN] at hbox1 hs HG
  have hmk := make_bools N hs
  have HS1 := Lib.hid (show Calls Try.prog 38 #[.slice none 0 0, .int .i64 (-1), .slice A2 fs.length c2] (W.alloc (.cells (Array.replicate N (.bool false)) 4)) fun e w' => ∃ v', e = .returned v' ∧ Mid w' (W.heap.size + 1) 66 2 v' (0 + fs.length) (stepsC ([] ++ fs.map fun p => (p, -1))) ∧ Keeps (fun k => k < W.heap.size + 1) (W.alloc (.cells (Array.replicate N (.bool false)) 4)) w' from
    steps_any _ (W.heap.size + 1) B (.slice none 0 0) (.slice A2 fs.length c2) [] (-1) fs (Mid.nil _ _ _ _) (hF.below ((Below.refl B W).alloc hB _)) (by omega) (by simp) (by simp) (by unfold fuel at hm; omega))
  clear hN hG hY hJ hm hF
  refine callsIn_of_wp Try.func37 rfl trivial ?_ rfl
  simp only [Try.ntmps37, List.size_toArray, List.length_cons, List.length_nil, Nat.reduceAdd, Nat.reduceSub, Array.replicate_succ, Array.replicate_zero, List.push_toArray, List.append_toArray, List.nil_append, List.cons_append]
  gi_wp2_with (refine ⟨trivial, ?_⟩; gi_at_call 38; refine (callsIn_wide.2 HS1.out).mono ?_; rintro e w1 ⟨v1, rfl, hM1, hK1⟩; have HM1 := Lib.hid hM1; have HK1 := Lib.hid hK1; clear hM1 hK1)
  gi_loopg [5] (fuel g fs.length) (fun f v wr => ∃ (pre : List (Nat × List Nat)) (q : List (Int × List Nat)), pre ++ bfs g f pre q = told g fs ∧ (mu g pre q ≤ f ∧ f ≤ 1000000) ∧ Blk wr W.heap.size 4 (bools N pre) ∧ Mid wr (W.heap.size + 1) 66 2 v q.length (stepsC (q.map sk)) ∧ J pre wr ∧ Keeps (fun k => D k ∨ k = b1 ∨ k = b2) W wr)
  case atStart =>
    refine ⟨[], fs.map fun c => (c, []), rfl, ⟨by simp [mu, fuel], HM.out⟩, ?_, ?_, ?_, ?_⟩
    · rw [bools_nil]; exact (HK1.out.block _ (by omega) (by simp)).trans (Blk.new W 4 _)
    · have := HM1.out
      simpa [sk, ahd, Function.comp_def] using this
    · exact HJ.out _ _ _ h0 (((Keeps.refl _ W).alloc _).trans (HK1.out.mono fun k hk _ => by omega))
    · exact ((Keeps.refl _ W).alloc _).trans (HK1.out.mono fun k hk _ => lt_of_D hD hlt1 hlt2 hk)
  case round =>
    obtain ⟨pre, q, hall, ⟨hmu, hf⟩, hT, hMid, hJp, hK⟩ := hrel
    cases q with
    | nil =>
      obtain ⟨_, a, cap, rfl, _, _, _⟩ := hMid
      have hpre : pre = told g fs := by cases gk <;> simpa [bfs] using hall
      rw [hpre] at hJp
      clear hpre hall
      gi_wp2
      go_end0
      exact ⟨⟨_, rfl⟩, .inl hJp⟩
    | cons s q =>
      obtain ⟨p, t⟩ := s
      obtain ⟨f, rfl⟩ : ∃ f, gk = f + 1 := ⟨gk - 1, by unfold mu at hmu; simp at hmu; omega⟩
      obtain ⟨g0, off, cap, rfl, hc1, hc2, hgL, hgs, hcell⟩ := hMid.front (by simp)
      have cp : wr.cell? ⟨g0, off, none⟩ = some (.int .i64 p) := hcell 0 _ rfl
      have ca : wr.cell? ⟨g0, off + 1, none⟩ = some (.int .i64 (ahd t)) := hcell 1 _ rfl
      have hMt := hMid.tail
      obtain ⟨Z, hZ⟩ : ∃ Z, (if cap = 1 then some (⟨g0, off, none⟩ : Addr) else some ⟨g0, off + 2, none⟩) = Z := ⟨_, rfl⟩
      obtain ⟨M, hM⟩ : ∃ M, q.length = M := ⟨_, rfl⟩
      rw [hZ] at hMt
      have hsl : ∀ X, (Instr.sliceAt 63 (.slice (some ⟨g0, off, none⟩) (M + 1) cap) (some (.int .i64 1)) none none).run Try.prog X = .ok (.slice Z M (cap - 1)) X := fun X => by
        have hs2 : (sizeOf (Try.prog.elem 63)).run Try.prog X = .ok 2 X := by kernel_rfl
        have h1 := run_sliceAt_slice (P := Try.prog) (w := X) 63 (.slice (some ⟨g0, off, none⟩) (M + 1) cap) (some (.int .i64 1)) none none (by kernel_rfl)
        have h2 := run_slice_l (P := Try.prog) (w := X) 63 (some ⟨g0, off, none⟩) (M + 1) cap (by kernel_rfl) .i64 1 (by omega) (by omega)
        rw [h1, h2, hs2]
        simp only [Result.andThen, sliced]
        rw [← hZ]
        congr 2
      rw [List.length_cons, hM] at hc1 ⊢
      obtain ⟨x1, hx1⟩ : ∃ x1, wr.alloc (.cells #[.int .i64 p, .int .i64 (ahd t)] 66) = x1 := ⟨_, rfl⟩
      have hk1 : Keeps (fun k => k < wr.heap.size) wr x1 := by rw [← hx1]; exact (Keeps.refl _ _).alloc _
      have hbs : Blk x1 wr.heap.size 66 #[.int .i64 p, .int .i64 (ahd t)] := by rw [← hx1]; exact Blk.new _ _ _
      have hsz1 : x1.heap.size = wr.heap.size + 1 := by rw [← hx1]; simp
      have hszW : W.heap.size < wr.heap.size := hT.lt
      have hT1 : Blk x1 W.heap.size 4 (bools N pre) := (hk1.block _ hszW hszW).trans hT
      have hK1 : Keeps (fun k => D k ∨ k = b1 ∨ k = b2) W x1 := hK.trans (hk1.mono fun k hk hA => hA)
      have hJ1 : J pre x1 := HJ.out _ _ _ hJp (hk1.mono fun k hk hA => hA)
      have hbx1 : x1.cell? ⟨b1, 0, none⟩ = some (.slice A N c) := hK1.cell (.inr (.inl rfl)) hbox1
      have cs0 : x1.cell? ⟨wr.heap.size, 0, none⟩ = some (.int .i64 p) := by rw [hbs.cell]; rfl
      have cs1 : x1.cell? ⟨wr.heap.size, 1, none⟩ = some (.int .i64 (ahd t)) := by rw [hbs.cell]; rfl
      have hMT1 := hMt.keep (w' := x1) fun k _ hk => hk1.block k hk hk
      have hdrop : (stepsC (List.map sk ((p, t) :: q))).drop 2 = stepsC (q.map sk) := by rw [List.map_cons]; rfl
      rw [hdrop, hM] at hMT1
      have HMT := Lib.hid hMT1
      have HA := Lib.hid hall
      have HMU := Lib.hid hmu
      have HMq := Lib.hid hM
      have HT1 := Lib.hid hT1
      have HJ1 := Lib.hid hJ1
      have HK1 := Lib.hid hK1
      have HBS := Lib.hid hbs
      have hpos : (0 : Int) < (M : Int) + 1 := by omega
      have HP := Lib.hid (isPlace_any A N c p x1)
      have hbB : (decide (0 ≤ p) && decide (p < (N : Int))) = isP g p := by rw [← HN.out]; rfl
      rw [hbB] at HP
      clear hbB hMid hMt hZ hM hcell hall hmu hK hmk hk1 hbs hT hT1 hK1 hJ1 hJp hMT1 hdrop
      by_cases hp : isP g p = true
      · obtain ⟨y, rfl⟩ : ∃ y : Nat, p = (y : Int) := ⟨p.toNat, by have := isP_iff.1 hp; omega⟩
        have hyN : y < N := by have := isP_iff.1 hp; rw [HN.out] at this; omega
        have HPP := Lib.hid hp
        rw [hp] at HP
        clear hp
        obtain ⟨bt, hbt⟩ : ∃ bt, (pre.map (·.1)).contains y = bt := ⟨_, rfl⟩
        have ct : x1.cell? ⟨W.heap.size, y, none⟩ = some (.bool bt) := by rw [HT1.out.cell, bools_at _ hyN, hbt]
        have cf : x1.frozen? ⟨W.heap.size, y, none⟩ = false := HT1.out.frozen y
        have hyI : (y : Int) < (N : Int) := by omega
        have hy0 : (0 : Int) ≤ (y : Int) := by omega
        have HBT := Lib.hid hbt
        clear hbt
        cases bt with
        | true =>
          have hA2 := HA.out
          rw [bfs_no (.inr HBT.out)] at hA2
          have hmu2 : mu g pre q ≤ f := by have := HMU.out; have := mu_no (g := g) (L := pre) (s := ((y : Int), t)) (q := q); omega
          have HA2 := Lib.hid hA2
          clear hA2
          gi_wp2_with (refine ⟨trivial, ?_⟩; gi_at_call 39; refine (callsIn_wide.2 HP.out).mono ?_; rintro e w2 ⟨rfl, rfl⟩)
          gi_roundg f
          case measure => omega
          case rel => exact ⟨pre, q, HA2.out, ⟨hmu2, by omega⟩, HT1.out, by rw [HMq.out]; exact HMT.out, HJ1.out, HK1.out⟩
        | false =>
          have hA2 := HA.out
          have hct : (pre.map (·.1)).contains ((y : Int).toNat) = false := by rw [Int.toNat_natCast]; exact HBT.out
          rw [bfs_yes HPP.out hct] at hA2
          have hmu2 := mu_yes (g := g) (L := pre) (t := t) (q := q) HPP.out hct
          rw [Int.toNat_natCast] at hA2 hmu2
          have hmu3 : mu g (pre ++ [(y, t)]) (q ++ kids g y t) ≤ f := by have := HMU.out; omega
          have hqlen : q.length + (rowOf g y).length ≤ f := by
            unfold mu at hmu3
            simp only [kids, List.length_append, List.length_map] at hmu3
            have : (rowOf g y).length = (g.getD y []).length := rfl
            omega
          have hpre : pre ++ [(y, t)] <+: told g fs := by rw [← hA2]; exact ⟨bfs g f (pre ++ [(y, t)]) (q ++ kids g y t), by simp⟩
          obtain ⟨x2, hx2⟩ : ∃ x2, x1.setCell ⟨W.heap.size, y, none⟩ (.bool true) = x2 := ⟨_, rfl⟩
          have hk2 : Keeps (fun k => k ≠ W.heap.size) x1 x2 := by rw [← hx2]; exact (Keeps.refl _ _).setCell (by simp) _
          have hT2 : Blk x2 W.heap.size 4 (bools N (pre ++ [(y, t)])) := by rw [← hx2, ← bools_set pre t]; exact HT1.out.stored _ _
          have hJ2 : J pre x2 := HJ.out _ _ _ HJ1.out (hk2.mono fun k hk _ => by omega)
          have hK2 : Keeps (fun k => D k ∨ k = b1 ∨ k = b2) W x2 := HK1.out.trans (hk2.mono fun k hk _ => by have := ne_of_D hD hlt1 hlt2 hk; exact this)
          have hbs2 : Blk x2 wr.heap.size 66 #[.int .i64 y, .int .i64 (ahd t)] := (hk2.block _ (by omega) HBS.out.lt).trans HBS.out
          have hs2 : x1.heap.size ≤ x2.heap.size := hk2.size
          have ds0 : x2.cell? ⟨wr.heap.size, 0, none⟩ = some (.int .i64 y) := by rw [hbs2.cell]; rfl
          have ds1 : x2.cell? ⟨wr.heap.size, 1, none⟩ = some (.int .i64 (ahd t)) := by rw [hbs2.cell]; rfl
          have hMid2 := HMT.out.keep (w' := x2) fun k hk1 hk => hk2.block k (by omega) hk
          obtain ⟨fn, tmps, assign, body, hy, hR⟩ := HY.out pre (y, t) x2 hJ2 hpre
          dsimp only at hy
          have HMid2 := Lib.hid hMid2
          have HT2 := Lib.hid hT2
          have HK2 := Lib.hid hK2
          have HBS2 := Lib.hid hbs2
          have HA2 := Lib.hid hA2
          have HPRE := Lib.hid hpre
          have HQL := Lib.hid hqlen
          have HMU3 := Lib.hid hmu3
          clear hA2 hmu2 hmu3 hpre hk2 hT2 hJ2 hK2 hbs2 hMid2 hct hqlen
          gi_wp2_with (refine ⟨trivial, ?_⟩; gi_at_call 39; refine (callsIn_wide.2 HP.out).mono ?_; rintro e w2 ⟨rfl, rfl⟩)
          refine hR.mono ?_
          rintro e W3 (⟨rfl, hJ3, hk3⟩ | ⟨rfl, hJx3⟩)
          · have hK3 : Keeps (fun k => D k ∨ k = b1 ∨ k = b2) W W3 := HK2.out.trans (hk3.mono fun k hk _ => .inl hk)
            have hT3 : Blk W3 W.heap.size 4 (bools N (pre ++ [(y, t)])) := (hk3.block _ (.inr (Nat.le_refl _)) HT2.out.lt).trans HT2.out
            have hbs3 : Blk W3 wr.heap.size 66 #[.int .i64 y, .int .i64 (ahd t)] := (hk3.block _ (.inr (by omega)) HBS2.out.lt).trans HBS2.out
            have hMid3 := HMid2.out.keep (w' := W3) fun k hk1 hk => hk3.block k (.inr (by omega)) hk
            have es0 : W3.cell? ⟨wr.heap.size, 0, none⟩ = some (.int .i64 y) := by rw [hbs3.cell]; rfl
            have hbx3 : W3.cell? ⟨b1, 0, none⟩ = some (.slice A N c) := hK3.cell (.inr (.inl rfl)) hbox1
            have hG3 := HG.out W3 (hK3.mono fun k hk _ => .inl hk)
            rw [← HN.out] at hG3
            obtain ⟨ad, c9, hAe, _, _, hbad, hrows⟩ := hG3.rows (by rw [HN.out]; omega)
            injection hAe with hAe _ hAc
            subst hAe hAc
            obtain ⟨A', c', hrc3, hrs3⟩ := hrows y (by rw [HN.out]; exact hyN)
            have hsz3 : W.heap.size + 1 ≤ W3.heap.size := hT3.lt
            have HS := Lib.hid (show ∀ X, X = W3.drew → Calls Try.prog 38 #[.slice Z M (cap - 1), .int .i64 (y : Int), .slice A' (rowOf g y).length c'] X fun e w' => ∃ v', e = .returned v' ∧ Mid w' (W.heap.size + 1) 66 2 v' (M + (rowOf g y).length) (stepsC (q.map sk ++ (rowOf g y).map fun p => (p, (y : Int)))) ∧ Keeps (fun k => k < W.heap.size + 1) X w' from fun X hX => by
              subst hX
              have h1 := HQL.out
              have := steps_any W3.drew (W.heap.size + 1) B (.slice Z M (cap - 1)) (.slice A' (rowOf g y).length c') (q.map sk) y (rowOf g y) (by rw [List.length_map, HMq.out]; exact hMid3.keep fun _ _ _ => rfl) (hrs3.keep fun _ _ => rfl) (by omega) hsz3 (by rw [List.length_map]; omega) (by omega)
              rwa [List.length_map, HMq.out] at this)
            have HT3 := Lib.hid hT3
            have HK3 := Lib.hid hK3
            have HJ3 := Lib.hid hJ3
            clear hrows hG3 hrs3 hK3 hT3 hbs3 hMid3 hJ3 hk3 hbad
            gi_wp2
            refine wpIn_wide.2 ?_
            go_still_tail 8, (by kernel_rfl)
            go_wp2_with (go_at_call 38; refine (HS.out _ rfl).mono ?_; rintro e w4 ⟨v4, rfl, hM4, hK4⟩; have HM4 := Lib.hid hM4; have HK4 := Lib.hid hK4; clear hM4 hK4)
            have hk4 : Keeps (fun k => k < W.heap.size + 1) W3 w4 := ((Keeps.refl _ W3).drew).trans HK4.out
            gi_roundg f
            case measure => omega
            case rel =>
              refine ⟨pre ++ [(y, t)], q ++ kids g y t, ?_, ⟨HMU3.out, by omega⟩, ?_, ?_, ?_, ?_⟩
              · have := HA2.out; simpa using this
              · exact (hk4.block _ (by omega) HT3.out.lt).trans HT3.out
              · have h1 := HM4.out
                have e1 : (q ++ kids g y t).length = M + (rowOf g y).length := by
                  have := HMq.out
                  unfold kids rowOf
                  simp only [List.length_append, List.length_map]; omega
                have e2 : (q ++ kids g y t).map sk = q.map sk ++ (rowOf g y).map fun p => (p, (y : Int)) := by
                  unfold kids rowOf
                  simp [sk, ahd, Function.comp_def]
                rw [e1, e2]; exact h1
              · exact HJ.out _ _ _ HJ3.out (hk4.mono fun k hk _ => by omega)
              · exact HK3.out.trans (hk4.mono fun k hk _ => lt_of_D hD hlt1 hlt2 hk)
          · gi_wp2
            refine bodyPost_ret (results_none rfl _ _ _) rfl ?_
            exact ⟨⟨_, rfl⟩, .inr ⟨_, HPRE.out, hJx3⟩⟩
      · have hp' : isP g p = false := by simpa using hp
        have hA2 := HA.out
        rw [bfs_no (.inl hp')] at hA2
        have hmu2 : mu g pre q ≤ f := by have := HMU.out; have := mu_no (g := g) (L := pre) (s := (p, t)) (q := q); omega
        have HA2 := Lib.hid hA2
        rw [hp'] at HP
        clear hA2 hp hp'
        gi_wp2_with (refine ⟨trivial, ?_⟩; gi_at_call 39; refine (callsIn_wide.2 HP.out).mono ?_; rintro e w2 ⟨rfl, rfl⟩)
        gi_roundg f
        case measure => omega
        case rel => exact ⟨pre, q, HA2.out, ⟨hmu2, by omega⟩, HT1.out, by rw [HMq.out]; exact HMT.out, HJ1.out, HK1.out⟩

/-- What walk hands back tells the places. -/
theorem walk_tells (n : Nat) (hn : 1 ≤ n) (b1 b2 B : Nat) (D : Nat → Prop) (A A2 : Option Addr) (c c2 : Nat) (g : List (List Int)) (fs : List Int) (w : World) (hbox1 : w.cell? ⟨b1, 0, none⟩ = some (.slice A g.length c)) (hbox2 : w.cell? ⟨b2, 0, none⟩ = some (.slice A2 fs.length c2))
    (hG : ∀ X, Keeps D w X → Gr X B (.slice A g.length c) g) (hF : SlV w B (.slice A2 fs.length c2) (ints fs)) (hD : ∀ k, D k → k < w.heap.size) (hB : B ≤ w.heap.size) (hs : g.length ≤ 1000) (hm : fuel g fs.length ≤ 1000000) :
    Tells Fence.wide n Try.prog 37 #[.pointer (some ⟨b1, 0, none⟩), .pointer (some ⟨b2, 0, none⟩)] (fun x : Nat × List Nat => #[Value.int .i64 (x.1 : Int), Value.int .i64 (ahd x.2)])
      (fun L k => (D k ∨ k = b1 ∨ k = b2) ∨ L ≤ k) (fun L k => k < L) (told g fs) w := by
  intro l J Jx W hW hJ hY h0
  have hlt1 := World.block_lt_of_cell? w _ hbox1
  have hlt2 := World.block_lt_of_cell? w _ hbox2
  have hk : Keeps D w W := Keeps.of_below hW fun k hk _ => hD k hk
  exact walk1_in n hn l b1 b2 B D A A2 c c2 g fs J Jx W ((hW.cell (p := ⟨b1, 0, none⟩) hlt1).trans hbox1) ((hW.cell (p := ⟨b2, 0, none⟩) hlt2).trans hbox2) (fun X hX => hG X (hk.trans hX)) (hF.below (hW.mono hB)) (fun k h => Nat.lt_of_lt_of_le (hD k h) hW.size) (Nat.le_trans hB hW.size) hs hm hJ hY h0
end Go.Proofs.Ythkbdclnnpcoiaa.By
