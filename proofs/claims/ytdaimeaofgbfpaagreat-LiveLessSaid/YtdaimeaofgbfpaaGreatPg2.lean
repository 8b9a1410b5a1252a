/-
 Pg2
-/
import Derived.Test.YtdaimeaofgbfpaaGreatZa2
import Derived.Test.YtdaimeaofgbfpaaGreatPa2
import Derived.Shelf.Abstract
import Derived.OwnWalkIn
import Derived.TacticsInMore
import Derived.LoopNIn
import Derived.LoopIn
import Derived.Sort.LoopGhostIn
import Derived.StillTailTactics
import Derived.Test.YtdaimeaofgbfpaaGreatPb2
import Derived.RangeFuncBox
set_option linter.unusedSimpArgs false
set_option linter.unusedVariables false
namespace Go.Proofs.YtdaimeaofgbfpaaGreat.By
open Go.RowKit
open Mem Gm Rf
end Go.Proofs.YtdaimeaofgbfpaaGreat.By
namespace Go.Proofs.YtdaimeaofgbfpaaGreat.By
open Go.RowKit
open Mem Gm Rf
attribute [local go_sem] Oper.semAt_some
theorem infoB : (Tryz.prog.info? 4).map (fun i => (i.zero, i.size, i.bytes)) = some (some (.bool false), 1, 1) := by kernel_rfl
theorem make_bools (n : Nat) (hn : n ≤ 1000) (W : World) : (Instr.makeSlice 38 (.int .i64 (n : Int)) (.int .i64 (n : Int))).run Tryz.prog W = .ok (.slice (some ⟨W.heap.size, 0, none⟩) n n) (W.alloc (.cells (Array.replicate n (.bool false)) 4)) := by
 obtain ⟨i, hi, hz0, hz1, hz2⟩ := info_parts infoB
 have := run_make (P := Tryz.prog) W 38 4 i (.bool false) Tryz.underlying38 hi hz0 .i64 .i64 (n : Int) (n : Int) (by omega) (by omega) (by rw [hz2]; omega) (by omega)
 rw [this, hz1]
 simp only [Int.toNat_natCast, Nat.mul_one]
 have e : madeCells (Value.bool false).cells n = Array.replicate n (.bool false) := by
  apply Array.ext
  ·simp [madeCells, Value.cells]
  ·intro i h1 h2
   simp [madeCells, Value.cells, Nat.mod_one]
 rw [e]
def reachV (g : List (List Int)) (fs : List Int) : List Value := (List.range g.length).map fun i => .bool (reach g fs i)
end Go.Proofs.YtdaimeaofgbfpaaGreat.By
namespace Go.Proofs.YtdaimeaofgbfpaaGreat.By
open Go.RowKit
open Mem Gm Rf
def bo (n : Nat) (o : Nat → Bool) : Array Value := ((List.range n).map fun i => Value.bool (o i)).toArray
theorem bo_at {n i : Nat} (o : Nat → Bool) (hi : i < n) : (bo n o)[i]? = some (.bool (o i)) := by simp [bo, hi]
def upd (o : Nat → Bool) (a : Nat) : Nat → Bool := fun i => o i || i == a
theorem bo_set {n a : Nat} (o : Nat → Bool) : (bo n o).setIfInBounds a (.bool true) = bo n (upd o a) := by
 apply Array.ext
 ·simp [bo]
 ·intro i h1 h2
  have hi : i < n := by simpa [bo] using h2
  rw [Array.getElem_setIfInBounds (by simpa [bo] using hi)]
  by_cases e : a = i
  ·subst e; simp [bo, upd]
  ·rw [if_neg e]
   simp [bo, upd, Ne.symm e]
theorem bo_nil (n : Nat) : bo n (fun _ => false) = Array.replicate n (.bool false) := by
 apply Array.ext
 ·simp [bo]
 ·intro i h1 h2; simp [bo]
def RSt (g : List (List Int)) (fs : List Int) (r a i : Nat) (o : Nat → Bool) : Prop :=
 (∀ v, v < g.length → o v = true → reach g fs v = true) ∧ (∀ v t, Walk g (fun a => (a : Int) ∈ fs) (v :: t) → t.length ≤ r → o v = true) ∧
 (∀ a' t v, a' < a → Walk g (fun a => (a : Int) ∈ fs) (a' :: t) → t.length ≤ r → E g a' v = true → o v = true) ∧
 (∀ t i', i' < i → Walk g (fun a => (a : Int) ∈ fs) (a :: t) → t.length ≤ r → isP g (el (rowOf g a) i') = true → o (el (rowOf g a) i').toNat = true)
theorem RSt.start {g : List (List Int)} {fs : List Int} {o : Nat → Bool} (h : ∀ v, v < g.length → (o v = true ↔ (v : Int) ∈ fs)) : RSt g fs 0 0 0 o := by
 refine ⟨fun v hv ho => (reach_iff _ _ _).2 ⟨[], .one v hv ((h v hv).1 ho)⟩, fun v t hw ht => ?_, fun _ _ _ h => absurd h (by omega), fun _ _ h => absurd h (by omega)⟩
 have : t = [] := List.eq_nil_of_length_eq_zero (by omega)
 subst this
 cases hw with
 | one _ hv hS => exact (h v hv).2 hS
theorem RSt.skip {g : List (List Int)} {fs : List Int} {r a i : Nat} {o : Nat → Bool} (h : RSt g fs r a i o) (hp : isP g (el (rowOf g a) i) = false) : RSt g fs r a (i + 1) o := by
 obtain ⟨h1, h2, h3, h4⟩ := h
 refine ⟨h1, h2, h3, fun t i' hi hw ht hi' => ?_⟩
 by_cases e : i' = i
 ·subst e; rw [hp] at hi'; cases hi'
 ·exact h4 t i' (by omega) hw ht hi'
theorem RSt.put {g : List (List Int)} {fs : List Int} {r a i y : Nat} {o : Nat → Bool} (h : RSt g fs r a i o) (ha : a < g.length) (hi : i < (rowOf g a).length) (hoa : o a = true) (hy : el (rowOf g a) i = (y : Int)) (hyn : y < g.length) : RSt g fs r a (i + 1) (upd o y) := by
 obtain ⟨h1, h2, h3, h4⟩ := h
 have hE : E g a y = true := E_iff.2 ⟨ha, hyn, by
  show (y : Int) ∈ rowOf g a
  rw [← hy, ← el_at hi]; exact List.getElem_mem _⟩
 have mon : ∀ v, o v = true → upd o y v = true := fun v hv => by simp [upd, hv]
 refine ⟨fun v hv ho => ?_, fun v t hw ht => mon _ (h2 v t hw ht), fun a' t v ha' hw ht he => mon _ (h3 a' t v ha' hw ht he), fun t i' hi' hw ht hp => ?_⟩
 ·simp only [upd, Bool.or_eq_true, beq_iff_eq] at ho
  rcases ho with ho | rfl
  ·exact h1 v hv ho
  ·obtain ⟨t, ht⟩ := (reach_iff _ _ _).1 (h1 a ha hoa)
   exact (reach_iff _ _ _).2 ⟨a :: t, .on a v t ht hE⟩
 ·by_cases e : i' = i
  ·subst e; rw [hy]; simp [upd]
  ·exact mon _ (h4 t i' (by omega) hw ht hp)
theorem RSt.nextA {g : List (List Int)} {fs : List Int} {r a i : Nat} {o : Nat → Bool} (h : RSt g fs r a i o) (he : o a = false ∨ i = (rowOf g a).length) : RSt g fs r (a + 1) 0 o := by
 obtain ⟨h1, h2, h3, h4⟩ := h
 refine ⟨h1, h2, fun a' t v ha' hw ht hE => ?_, fun _ _ h => absurd h (by omega)⟩
 by_cases e : a' = a
 ·subst e
  rcases he with he | he
  ·rw [h2 a' t hw ht] at he; cases he
  ·obtain ⟨ha, hv, hm⟩ := E_iff.1 hE
   obtain ⟨j, hj, hjv⟩ := List.getElem_of_mem (show (v : Int) ∈ rowOf g a' from hm)
   have hel : el (rowOf g a') j = (v : Int) := by rw [← el_at hj]; exact hjv
   have := h4 t j (by omega) hw ht (by rw [hel]; exact isP_iff.2 ⟨by omega, by omega⟩)
   rwa [hel, Int.toNat_natCast] at this
 ·exact h3 a' t v (by omega) hw ht hE
theorem RSt.nextR {g : List (List Int)} {fs : List Int} {r a : Nat} {o : Nat → Bool} (h : RSt g fs r a 0 o) (ha : a = g.length) : RSt g fs (r + 1) 0 0 o := by
 obtain ⟨h1, h2, h3, h4⟩ := h
 refine ⟨h1, fun v t hw ht => ?_, fun _ _ _ h => absurd h (by omega), fun _ _ h => absurd h (by omega)⟩
 cases hw with
 | one _ hv hS => exact h2 v [] (.one v hv hS) (by simp)
 | on u _ t' hw' he => exact h3 u t' v (by rw [ha]; exact hw'.head) hw' (by simpa using ht) he
theorem RSt.final {g : List (List Int)} {fs : List Int} {r : Nat} {o : Nat → Bool} (h : RSt g fs r 0 0 o) (hr : g.length ≤ r + 1) : ∀ v, v < g.length → o v = reach g fs v := by
 intro v hv
 rw [Bool.eq_iff_iff]
 refine ⟨h.1 v hv, fun hre => ?_⟩
 have hm : v ∈ (told g fs).map (·.1) := by simpa [reach] using hre
 obtain ⟨s, hs, rfl⟩ := List.mem_map.1 hm
 have hsh := told_short (v := s.1) (t := s.2) hs
 exact h.2.1 s.1 s.2 ((told_inv g fs).walk s hs).1 (by simp at hsh; omega)
theorem bo_reach {g : List (List Int)} {fs : List Int} {N : Nat} {o : Nat → Bool} (hN : g.length = N) (h : ∀ v, v < g.length → o v = reach g fs v) : (bo N o).toList = reachV g fs := by
 unfold bo reachV
 rw [hN]
 refine List.map_congr_left fun i hi => ?_
 rw [h i (by rw [hN]; exact List.mem_range.1 hi)]
def ReachAns (g : List (List Int)) (fs : List Int) (w : World) (e : Ending) (w' : World) : Prop := ∃ A', e = .returned (.slice A' g.length g.length) ∧ SlV w' w'.heap.size (.slice A' g.length g.length) (reachV g fs) ∧ Below w.heap.size w w'
set_option maxHeartbeats 4000000 in
theorem rreach_any (w : World) (A A2 : Option Addr) (c c2 : Nat) (g : List (List Int)) (fs : List Int) (h : Gr w w.heap.size (.slice A g.length c) g) (hF : SlV w w.heap.size (.slice A2 fs.length c2) (ints fs)) (hl : g.length ≤ 1000) (hfl : fs.length ≤ 1000000) :
  Calls Tryz.prog 45 #[.slice A g.length c, .slice A2 fs.length c2] w (ReachAns g fs w) := by
 obtain ⟨N, hN⟩ : ∃ N, g.length = N := ⟨_, rfl⟩
 obtain ⟨M, hM⟩ : ∃ M, fs.length = M := ⟨_, rfl⟩
 rw [hN] at h
 have HC := Hd (fun i (hi : i < N) => h.reads hN hi)
 have HF := Hd (show ∀ j, j < M → ∃ ad, A2 = some ad ∧ ad.block < w.heap.size ∧ w.cell? (ad.add j) = some (.int .i64 (el fs j)) from fun j hj => by
  rcases ints_row hF with ⟨e, _⟩ | ⟨ad, e, hb, hc⟩
  ·rw [e] at hM; simp at hM; omega
  ·exact ⟨ad, e, hb, hc j (by omega)⟩)
 have hmk := make_bools N (hN ▸ hl)
 have HN := Hd hN
 have HM := Hd hM
 rw [hN] at hl ⊢
 rw [hM] at hfl ⊢
 have hblk : ∀ (p : Addr) (u : Value) (wr : World), Below w.heap.size w wr → w.cell? p = some u → wr.cell? p = some u := fun p u wr hb hc => (hb.cell (World.block_lt_of_cell? w _ hc)).trans hc
 have HBK := Hd hblk
 clear h hF hN hM hblk
 go_enter Tryz.func45, Tryz.ntmps45
 go_wp2_with fail
 have HS0 := Hd (show (Blk (w.alloc (.cells (Array.replicate N (.bool false)) 4)) w.heap.size 4 (bo N fun _ => false)) ∧ Below w.heap.size w (w.alloc (.cells (Array.replicate N (.bool false)) 4)) from ⟨by rw [bo_nil]; exact Blk.new _ _ _, (Below.refl _ w).alloc (Nat.le_refl _) _⟩)
 clear hmk
 go_loopw [6] (fun i wr => ∃ (k : Nat) (o : Nat → Bool), k ≤ M ∧ i = .int .i64 k ∧ Hid (∀ v, v < N → (o v = true ↔ ∃ j, j < k ∧ el fs j = (v : Int))) ∧ Blk wr w.heap.size 4 (bo N o) ∧ Below w.heap.size w wr) (fun i _ => M - (intOf i).toNat)
 case atStart => exact ⟨0, fun _ => false, by omega, rfl, Hd (fun v hv => by simp), HS0.out.1, HS0.out.2⟩
 case round =>
  obtain ⟨k, o, hk, rfl, HO, hT, hB⟩ := hrel
  by_cases hlt : k < M
  ·obtain ⟨ad, rfl, _, hc⟩ := HF.out k hlt
   have hc := HBK.out _ _ _ hB hc
   obtain ⟨x, hx⟩ : ∃ x, el fs k = x := ⟨_, rfl⟩
   rw [hx] at hc
   by_cases hp : 0 ≤ x ∧ x < (N : Int)
   ·obtain ⟨y, rfl⟩ : ∃ y : Nat, x = (y : Int) := ⟨x.toNat, by omega⟩
    have hyN : y < N := by omega
    have ct : wr.cell? ⟨w.heap.size, y, none⟩ = some (.bool (o y)) := by rw [hT.cell, bo_at _ hyN]
    have cf : wr.frozen? ⟨w.heap.size, y, none⟩ = false := hT.frozen y
    obtain ⟨hp0, hp1⟩ := hp
    have HO2 := Hd (show ∀ v, v < N → (upd o y v = true ↔ ∃ j, j < k + 1 ∧ el fs j = (v : Int)) from fun v hv => by
     simp only [upd, Bool.or_eq_true, beq_iff_eq, HO.out v hv]
     constructor
     ·rintro (⟨j, hj, e⟩ | rfl)
      ·exact ⟨j, by omega, e⟩
      ·exact ⟨k, by omega, hx⟩
     ·rintro ⟨j, hj, e⟩
      by_cases ej : j = k
      ·right; subst ej; rw [hx] at e; omega
      ·exact .inl ⟨j, by omega, e⟩)
    have HT2 := Hd (show Blk (wr.setCell ⟨w.heap.size, y, none⟩ (.bool true)) w.heap.size 4 (bo N (upd o y)) by rw [← bo_set]; exact hT.stored _ _)
    have HB2 := Hd (hB.setCell (p := ⟨w.heap.size, y, none⟩) (Nat.le_refl _) (.bool true))
    clear hx HO hT hB
    go_wp2_with fail
    go_roundw
    case rel => exact ⟨k + 1, upd o y, by omega, by go_num, HO2, HT2.out, HB2.out⟩
    case measure => simp [intOf]; omega
   ·have HO2 := Hd (show ∀ v, v < N → (o v = true ↔ ∃ j, j < k + 1 ∧ el fs j = (v : Int)) from fun v hv => by
     rw [HO.out v hv]
     constructor
     ·rintro ⟨j, hj, e⟩; exact ⟨j, by omega, e⟩
     ·rintro ⟨j, hj, e⟩
      by_cases ej : j = k
      ·subst ej; rw [hx] at e; omega
      ·exact ⟨j, by omega, e⟩)
    have HT2 := Hd hT
    have HB2 := Hd hB
    have hd : (x ≥ 0 ∧ decide (x < (N : Int)) = false) ∨ decide (0 ≤ x) = false := by
     by_cases h0 : 0 ≤ x
     ·exact .inl ⟨h0, by simp; omega⟩
     ·exact .inr (by simpa using h0)
    clear hx HO hT hB hp
    rcases hd with ⟨h0, h1⟩ | h0
    all_goals
     go_wp2_with fail
     go_roundw
     case rel => exact ⟨k + 1, o, by omega, by go_num, HO2, HT2.out, HB2.out⟩
     case measure => simp [intOf]; omega
  ·obtain rfl : k = M := by omega
   have HST := Hd (RSt.start (g := g) (fs := fs) (o := o) fun v hv => by
    rw [HO.out v (by rw [← HN.out]; exact hv)]
    constructor
    ·rintro ⟨j, hj, e⟩
     have hj' : j < fs.length := by rw [HM.out]; exact hj
     rw [← e, ← el_at hj']; exact List.getElem_mem _
    ·intro hm
     obtain ⟨j, hj, e⟩ := List.getElem_of_mem hm
     exact ⟨j, by rw [← HM.out]; exact hj, by rw [← el_at hj]; exact e⟩)
   have HT0 := Hd hT
   have HB0 := Hd hB
   clear HO hT hB
   go_wp2_with fail
   go_loopw [7] (fun i wr => ∃ (r : Nat) (o : Nat → Bool), r ≤ N ∧ i = .int .i64 r ∧ Hid (RSt g fs r 0 0 o) ∧ Blk wr w.heap.size 4 (bo N o) ∧ Below w.heap.size w wr) (fun i _ => N - (intOf i).toNat)
   case atStart => exact ⟨0, o, by omega, rfl, HST, HT0.out, HB0.out⟩
   case round =>
    obtain ⟨r, o, hr, rfl, HR, hT, hB⟩ := hrel
    by_cases hrl : r < N
    ·have HT := Hd hT
     have HB := Hd hB
     clear hT hB
     go_wp2_with fail
     obtain ⟨wo, hwo⟩ : ∃ wo, wo = wr := ⟨_, rfl⟩
     subst hwo
     go_loopw [8] (fun i wr => ∃ (a : Nat) (o : Nat → Bool), a ≤ N ∧ i = .int .i64 a ∧ Hid (RSt g fs r a 0 o) ∧ Blk wr w.heap.size 4 (bo N o) ∧ Below w.heap.size w wr) (fun i _ => N - (intOf i).toNat)
     case atStart => exact ⟨0, o, by omega, rfl, HR, HT.out, HB.out⟩
     case round =>
      obtain ⟨a, o, ha, rfl, HR, hT, hB⟩ := hrel
      by_cases hal : a < N
      ·have HT := Hd hT
       have HB := Hd hB
       obtain ⟨ad, A', c', rfl, hcell0, hm, hel⟩ := HC.out a hal
       obtain ⟨D, hD⟩ : ∃ D, (rowOf g a).length = D := ⟨_, rfl⟩
       rw [hD] at hcell0 hm hel
       have hDm : D ≤ 9223372036854775807 := by unfold maxLen at hm; omega
       have HD := Hd hD
       have HCE := Hd hcell0
       have HEL := Hd hel
       clear hT hB hm hD hcell0 hel
       go_wp2_with fail
       obtain ⟨wp, hwp⟩ : ∃ wp, wp = wr := ⟨_, rfl⟩
       subst hwp
       go_loopw [9] (fun i wr => ∃ (j : Nat) (o : Nat → Bool), j ≤ D ∧ i = .int .i64 j ∧ Hid (RSt g fs r a j o) ∧ Blk wr w.heap.size 4 (bo N o) ∧ Below w.heap.size w wr) (fun i _ => D - (intOf i).toNat)
       case atStart => exact ⟨0, o, by omega, rfl, HR, HT.out, HB.out⟩
       case round =>
        obtain ⟨j, o, hj, rfl, HR, hT, hB⟩ := hrel
        have hcell := HBK.out _ _ _ hB HCE.out
        obtain ⟨bl, hbl⟩ : ∃ bl, o a = bl := ⟨_, rfl⟩
        have cto : wr.cell? ⟨w.heap.size, a, none⟩ = some (.bool bl) := by rw [hT.cell, bo_at _ hal, hbl]
        cases bl with
        | false =>
         have HRN := Hd (HR.out.nextA (.inl hbl))
         have HT2 := Hd hT
         have HB2 := Hd hB
         clear hT hB hbl
         go_wp2_with fail
         go_roundw
         case rel => exact ⟨a + 1, o, by omega, by go_num, HRN, HT2.out, HB2.out⟩
         case measure => simp [intOf]; omega
        | true =>
         by_cases hjl : j < D
         ·obtain ⟨ad', rfl, hx0⟩ := HEL.out j hjl
          have hx1 := HBK.out _ _ _ hB hx0
          obtain ⟨x, hx⟩ : ∃ x, el (rowOf g a) j = x := ⟨_, rfl⟩
          rw [hx] at hx1
          clear hx0
          by_cases hp : 0 ≤ x ∧ x < (N : Int)
          ·obtain ⟨y, rfl⟩ : ∃ y : Nat, x = (y : Int) := ⟨x.toNat, by omega⟩
           have hyN : y < N := by omega
           have ct : wr.cell? ⟨w.heap.size, y, none⟩ = some (.bool (o y)) := by rw [hT.cell, bo_at _ hyN]
           have cf : wr.frozen? ⟨w.heap.size, y, none⟩ = false := hT.frozen y
           obtain ⟨hp0, hp1⟩ := hp
           have HRN := Hd (HR.out.put (by rw [HN.out]; exact hal) (by rw [HD.out]; exact hjl) hbl hx (by rw [HN.out]; exact hyN))
           have HT2 := Hd (show Blk (wr.setCell ⟨w.heap.size, y, none⟩ (.bool true)) w.heap.size 4 (bo N (upd o y)) by rw [← bo_set]; exact hT.stored _ _)
           have HB2 := Hd (hB.setCell (p := ⟨w.heap.size, y, none⟩) (Nat.le_refl _) (.bool true))
           clear hx hT hB hbl
           go_wp2_with fail
           go_roundw
           case rel => exact ⟨j + 1, upd o y, by omega, by go_num, HRN, HT2.out, HB2.out⟩
           case measure => simp [intOf]; omega
          ·have HRN := Hd (HR.out.skip (by
            rw [hx]
            cases e : isP g x
            ·rfl
            ·have := isP_iff.1 e; rw [HN.out] at this; exact absurd this hp))
           have HT2 := Hd hT
           have HB2 := Hd hB
           have hd : (x ≥ 0 ∧ decide (x < (N : Int)) = false) ∨ decide (0 ≤ x) = false := by
            by_cases h0 : 0 ≤ x
            ·exact .inl ⟨h0, by simp; omega⟩
            ·exact .inr (by simpa using h0)
           clear hx hT hB hbl hp
           rcases hd with ⟨h0, h1⟩ | h0
           all_goals
            go_wp2_with fail
            go_roundw
            case rel => exact ⟨j + 1, o, by omega, by go_num, HRN, HT2.out, HB2.out⟩
            case measure => simp [intOf]; omega
         ·have hjd : j = D := by omega
          have HRN := Hd (HR.out.nextA (.inr (by rw [HD.out]; exact hjd)))
          have HT2 := Hd hT
          have HB2 := Hd hB
          clear hT hB hbl hjd
          go_wp2_with fail
          go_roundw
          case rel => exact ⟨a + 1, o, by omega, by go_num, HRN, HT2.out, HB2.out⟩
          case measure => simp [intOf]; omega
      ·have haN : a = N := by omega
       have HRN := Hd (HR.out.nextR (by rw [HN.out]; exact haN))
       have HT2 := Hd hT
       have HB2 := Hd hB
       clear hT hB haN
       go_wp2_with fail
       go_roundw
       case rel => exact ⟨r + 1, o, by omega, by go_num, HRN, HT2.out, HB2.out⟩
       case measure => simp [intOf]; omega
    ·have hrN : r = N := by omega
     have HFIN := Hd (bo_reach HN.out (HR.out.final (by rw [HN.out]; omega)))
     have HT2 := Hd hT
     have HB2 := Hd hB
     clear hT hB hrN
     go_wp2_with fail
     go_ret
     refine ⟨some ⟨w.heap.size, 0, none⟩, by rw [HN.out]; rfl, ?_, HB2.out⟩
     rw [← HFIN.out, HN.out]
     have h2 : SlV wr wr.heap.size (.slice (some ⟨w.heap.size, 0, none⟩) (bo N o).toList.length N) (bo N o).toList :=
      .at_ _ _ _ (by simp [bo]) (by unfold maxLen; omega) fun j u hu => ⟨HT2.out.lt, by rw [add_plain, Nat.zero_add, HT2.out.cell, ← Array.getElem?_toList]; exact hu⟩
     have hl : (bo N o).toList.length = N := by simp [bo]
     rwa [hl] at h2
def RA (n : Nat) (g : List (List Int)) (fs : List Int) (w : World) (e : Ending) (w' : World) : Prop := ∃ A', e = .returned (.slice A' n n) ∧ SlV w' w'.heap.size (.slice A' n n) (reachV g fs) ∧ Below w.heap.size w w'
theorem rreach (w : World) (A A2 : Option Addr) (n c c2 : Nat) (O T : Nat → Int) (fs : List Int) (hG : Gr w w.heap.size (.slice A n c) (gph n O T)) (hF : SlV w w.heap.size (.slice A2 fs.length c2) (ints fs)) (hn : n ≤ 1000) (hl : fs.length ≤ 10000) :
  Calls Tryz.prog 45 #[.slice A n c, .slice A2 fs.length c2] w (RA n (gph n O T) fs w) := by
 have h := rreach_any w A A2 c c2 (gph n O T) fs (by rw [gph_length]; exact hG) hF (by rw [gph_length]; exact hn) (by omega)
 unfold ReachAns at h
 rw [gph_length] at h
 exact h
theorem Rw.own {W : World} {base : Nat} {v : Value} {l : List Int} (h : Rw W base v l) : W.ownsRow base 3 1 v l.length (ints l) := by
 obtain ⟨A, c, rfl, ho⟩ := h
 exact ho
theorem ints_len (l : List Int) : (ints l).length = l.length := by simp [ints]
theorem ints_app (a b : List Int) : ints a ++ ints b = ints (a ++ b) := by simp [ints]
theorem ints_one (l : List Int) : ∀ y ∈ ints l, y.oneCell' = true := fun y hy => by
 obtain ⟨x, _, rfl⟩ := List.mem_map.1 hy; rfl
def behs (n : Nat) (O T : Nat → Int) (ms : List Int) : List Int := ms.flatMap (nxt n O T)
def behT (n : Nat) (O T : Nat → Int) (ms : List Int) (k : Nat) : List Int := behs n O T (ms.take k)
theorem behT_next (n : Nat) (O T : Nat → Int) {ms : List Int} {k : Nat} (h : k < ms.length) : behT n O T ms (k + 1) = behT n O T ms k ++ nxt n O T (el ms k) := by
 unfold behT behs
 rw [List.take_succ_eq_append_getElem h, List.flatMap_append, el_at h]
 simp
theorem behT_all (n : Nat) (O T : Nat → Int) (ms : List Int) : behT n O T ms ms.length = behs n O T ms := by
 unfold behT; rw [List.take_length]
theorem behs_length (n : Nat) (O T : Nat → Int) (ms : List Int) : (behs n O T ms).length ≤ 2 * ms.length := by
 unfold behs
 induction ms with
 | nil => simp
 | cons x l ih =>
  rw [List.flatMap_cons, List.length_append, List.length_cons]
  have := nxt_length n O T x
  omega
theorem behT_length (n : Nat) (O T : Nat → Int) (ms : List Int) (k : Nat) : (behT n O T ms k).length ≤ 2 * k := by
 have := behs_length n O T (ms.take k)
 have h2 : (ms.take k).length ≤ k := by rw [List.length_take]; omega
 unfold behT
 omega
set_option maxRecDepth 100000 in
set_option maxHeartbeats 2000000 in
theorem rafter_any (w : World) (A A2 : Option Addr) (n c c2 M : Nat) (O T : Nat → Int) (ms : List Int) (h : Cd w w.heap.size A n c O T) (hM : ms.length = M) (hm : SlV w w.heap.size (.slice A2 M c2) (ints ms)) (hn : n ≤ 1000) (hl : M ≤ 1000) :
  Calls Tryz.prog 159 #[.slice A n c, .slice A2 M c2] w (RA n (gph n O T) (behs n O T ms) w) := by
 obtain ⟨i0, hi, hz0, hz1, hz2⟩ := info_parts infoI
 have HC := Hd (show ∀ W, Below w.heap.size w W → Cd W W.heap.size A n c O T from fun W hb => (h.below hb).more hb.size)
 have HG := Hd (fun W (hc : Cd W W.heap.size A n c O T) => rgraph_any W A n c O T hc hn)
 have HN := Hd (fun W (hc : Cd W W.heap.size A n c O T) (i : Int) => rnext_any W A n c O T hc i)
 have HR := Hd (fun W A A2 c c2 fs hG hF hl => rreach W A A2 n c c2 O T fs hG hF hn hl)
 have HE := Hd (show ∀ j, j < M → ∃ ad, A2 = some ad ∧ ad.block < w.heap.size ∧ w.cell? (ad.add j) = some (.int .i64 (el ms j)) from fun j hj => by
  rw [← hM] at hm
  rcases ints_row hm with ⟨e, _⟩ | ⟨ad, e, hb, hc⟩
  ·rw [e] at hM; simp at hM; omega
  ·exact ⟨ad, e, hb, hc j (by omega)⟩)
 have HK := Hd (show ∀ (p : Addr) (u : Value) (wr : World), Below w.heap.size w wr → w.cell? p = some u → wr.cell? p = some u from fun p u wr hb hc => (hb.cell (World.block_lt_of_cell? w _ hc)).trans hc)
 have HM := Hd hM
 clear h hm hM
 go_enter Tryz.func159, Tryz.ntmps159
 go_wp2_with fail
 go_loopw [5, 6] (fun v i wr => ∃ k : Nat, k ≤ M ∧ i = .int .i64 (k : Int) ∧ wr.ownsRow w.heap.size 3 1 v (ints (behT n O T ms k)).length (ints (behT n O T ms k)) ∧ Below w.heap.size w wr) (fun _ i _ => M - (intOf i).toNat)
 case atStart => exact ⟨0, Nat.zero_le _, rfl, World.ownsRow_nil _ _ _ _, Below.refl _ _⟩
 case round =>
  obtain ⟨k, hk, rfl, hown, hbel⟩ := hrel
  by_cases hlt : k < M
  ·have hkI : (k : Int) < (M : Int) := by omega
   obtain ⟨ad, rfl, _, hc⟩ := HE.out k hlt
   have hc := HK.out _ _ _ hbel hc
   have hx := behT_next n O T (ms := ms) (k := k) (by rw [HM.out]; exact hlt)
   have hlen := behT_length n O T ms k
   generalize el ms k = x at hc hx
   have hl2 := nxt_length n O T x
   have HX := Hd hx
   have HL2 := Hd hl2
   have HLEN := Hd hlen
   have HOW := Hd hown
   have HBE := Hd hbel
   clear hown hbel hx hl2 hlen
   go_wp2_with (first
    | (go_at_call 187; refine (HN.out wr (HC.out wr HBE.out) x).mono ?_; rintro e w2 ⟨nv, rfl, hrw, hb2⟩; have HRW := Hd hrw; have HB2 := Hd hb2; obtain ⟨A3, c3, rfl, _⟩ := hrw; clear hb2)
    | (at_builtin; go_loud (refine wpList_append_slv _ rfl _ _ 44 rfl w.heap.size 3 i0 (.int .i64 0) 8 Tryz.underlying44 hi hz0 hz1 hz2 rfl _ _ rfl (own_keep HOW.out fun g _ hg _ => HB2.out.block g hg) w2.heap.size (.slice A3 (nxt n O T x).length c3) (ints (nxt n O T x)) rfl (SlV.of_own (HRW.out.own)) (ints_one _) (by have := HLEN.out; have := HL2.out; rw [ints_len, ints_len]; unfold maxLen; omega) (by have := HLEN.out; have := HL2.out; rw [ints_len, ints_len]; omega) (by have := HBE.out.size; have := HB2.out.size; omega) ?_; intro v' w4 h2 h3; have H2 := Hd h2; have H3 := Hd h3; clear h2 h3)))
   go_roundw
   case rel =>
    have hb2 : Below w.heap.size w w2 := HBE.out.trans (HB2.out.mono HBE.out.size)
    refine ⟨k + 1, by omega, by go_num, ?_, hb2.grown H3.out hb2.size fun r e => (HOW.out.lt r e).1⟩
    rw [HX.out]
    have h9 := H2.out
    rw [ints_app] at h9
    exact h9
   case measure => simp [intOf]; omega
  ·obtain rfl : k = M := by omega
   obtain ⟨A3, c3, rfl⟩ := own_form hown
   have hall := behT_all n O T ms
   rw [HM.out] at hall
   have hlen := behT_length n O T ms k
   rw [hall] at hown hlen
   rw [ints_len] at hown
   have HLEN := Hd hlen
   have HIL := Hd (ints_len (behT n O T ms k))
   rw [hall] at HIL
   have HOW := Hd hown
   have HBE := Hd hbel
   rw [ints_len, hall]
   clear hown hbel hlen hall HIL
   go_wp2_with (first
    | (go_at_call 188; refine (HG.out wr (HC.out wr HBE.out)).mono ?_; rintro e w1 h1; obtain ⟨A1, c1, rfl, hg1, hb1⟩ := h1.n; have HG1 := Hd hg1; have HB1 := Hd hb1; clear hg1 hb1 h1)
    | (go_at_call 45; go_loud (refine (HR.out w1 A1 A3 c1 c3 (behs n O T ms) HG1.out (((SlV.of_own HOW.out).below HB1.out).more HB1.out.size) (by have := HLEN.out; omega)).mono ?_; rintro e w2 ⟨A4, rfl, hs2, hb2⟩; have HS2 := Hd hs2; have HB2 := Hd hb2; clear hs2 hb2)))
   go_ret
   exact ⟨_, rfl, HS2.out, (HBE.out.trans (HB1.out.mono HBE.out.size)).trans (HB2.out.mono (Nat.le_trans HBE.out.size HB1.out.size))⟩
def CW (w : World) (A : Option Addr) (n c : Nat) (O T : Nat → Int) : Prop := Cd w w.heap.size A n c O T
def BW (w : World) (v : Value) (n : Nat) (o : Nat → Bool) : Prop := SlV w w.heap.size v ((List.range n).map fun i => .bool (o i))
theorem CW.on {w w' : World} {A : Option Addr} {n c : Nat} {O T : Nat → Int} (h : CW w A n c O T) (hb : Below w.heap.size w w') : CW w' A n c O T := (Cd.below h hb).more hb.size
theorem BW.on {w w' : World} {v : Value} {n : Nat} {o : Nat → Bool} (h : BW w v n o) (hb : Below w.heap.size w w') : BW w' v n o := (SlV.below h hb).more hb.size
def BAns (n : Nat) (o : Nat → Bool) (w : World) (e : Ending) (w' : World) : Prop := ∃ A, e = .returned (.slice A n n) ∧ BW w' (.slice A n n) n o ∧ Below w.heap.size w w'
theorem ra_b {n : Nat} {O T : Nat → Int} {fs : List Int} {w w' : World} {e : Ending} (h : RA n (gph n O T) fs w e w') : BAns n (reach (gph n O T) fs) w e w' := by
 obtain ⟨A, h1, h2, h3⟩ := h
 unfold reachV at h2
 rw [gph_length] at h2
 exact ⟨A, h1, h2, h3⟩
section
variable {w : World} {A A2 : Option Addr} {n c c2 M L : Nat} {O T : Nat → Int} {l : List Int}
theorem rafter_w {o : Nat → Bool} (h : CW w A n c O T) (hM : l.length = M) (hm : IW w (.slice A2 M c2) l) (ho : reach (gph n O T) (behs n O T l) = o) (hn : n ≤ 1000) (hl : M ≤ 1000) : Calls Tryz.prog 159 #[.slice A n c, .slice A2 M c2] w (BAns n o w) := by
 subst ho; exact (rafter_any w A A2 n c c2 M O T l h hM hm hn hl).mono fun _ _ hh => ra_b hh
end
def mkT (O : Nat → Int) (k : Nat) : List Int := ((List.range k).filter fun i => O i == 21).map fun (i : Nat) => (i : Int)
theorem mkT_yes {O : Nat → Int} {k : Nat} (h : O k = 21) : mkT O (k + 1) = mkT O k ++ [(k : Int)] := by
 unfold mkT; rw [List.range_succ, List.filter_append]; simp [h]
theorem mkT_no {O : Nat → Int} {k : Nat} (h : O k ≠ 21) : mkT O (k + 1) = mkT O k := by
 unfold mkT; rw [List.range_succ, List.filter_append]; simp [h]
theorem mkT_length (O : Nat → Int) (k : Nat) : (mkT O k).length ≤ k := by
 unfold mkT; rw [List.length_map]
 have := List.length_filter_le (fun i => O i == 21) (List.range k)
 simpa using this
theorem news_at (W : World) (x : Int) : ∀ j u, [Value.int .i64 x][j]? = some u → (W.alloc (.cells #[.int .i64 x] 3)).cell? ((⟨W.heap.size, 0, none⟩ : Addr).add j) = some u := fun j u hu => by
 rw [add_plain, Nat.zero_add, (Blk.new W _ _).cell]; simpa using hu
set_option maxRecDepth 100000 in
set_option maxHeartbeats 2000000 in
theorem rmarks_any (w : World) (A : Option Addr) (n c L : Nat) (O T : Nat → Int) (h : CW w A n c O T) (hn : n ≤ 1000) (hL : (mkT O n).length = L) :
  Calls Tryz.prog 160 #[.slice A n c] w (IAns L (mkT O n) w) := by
 obtain ⟨i0, hi, hz0, hz1, hz2⟩ := info_parts infoI
 have HR := Hd (fun W (hb : Below w.heap.size w W) i (hi : i < n) => Cd.at_ (CW.on h hb) hi)
 have HL := Hd hL
 clear h hL
 go_enter Tryz.func160, Tryz.ntmps160
 go_wp2_with fail
 go_loopw [3, 4] (fun v i wr => ∃ k : Nat, k ≤ n ∧ i = .int .i64 (k : Int) ∧ wr.ownsRow w.heap.size 3 1 v (mkT O k).length (ints (mkT O k)) ∧ Below w.heap.size w wr) (fun _ i _ => n - (intOf i).toNat)
 case atStart => exact ⟨0, Nat.zero_le _, rfl, World.ownsRow_nil _ _ _ _, Below.refl _ _⟩
 case round =>
  obtain ⟨k, hk, rfl, hown, hbel⟩ := hrel
  by_cases hlt : k < n
  ·have hkI : (k : Int) < (n : Int) := by omega
   obtain ⟨ad, x, y, z, rfl, _, c0, c1, c2, c3, c4⟩ := HR.out wr hbel k hlt
   have HOW := Hd hown
   have HBE := Hd hbel
   have HLE := Hd (mkT_length O k)
   clear hown hbel c1 c2 c3 c4
   by_cases ho : O k = 21
   ·have HX := Hd (mkT_yes ho)
    rw [ho] at c0
    clear ho
    go_wp2_with (at_builtin; go_loud (refine wpList_append_own _ rfl _ _ 44 rfl w.heap.size 3 i0 (.int .i64 0) 1 8 Tryz.underlying44 hi hz0 hz1 hz2 rfl (by decide) _ _ _ rfl (own_keep HOW.out fun gg _ hlt _ => Below.heap_alloc _ _ _ hlt) ⟨wr.heap.size, 0, none⟩ 1 1 [.int .i64 (k : Int)] rfl rfl (news_at wr (k : Int)) (by simp [Value.oneCell']) (by have := HLE.out; unfold maxLen; omega) (by have := HLE.out; omega) (by have := HBE.out.size; simp; omega) ?_; intro v' w' h2 h3 h4; clear h4; have H2 := Hd h2; have H3 := Hd h3; clear h2 h3))
    go_roundw
    case rel =>
     have hb2 := to_ HBE.out (alloc_ wr (.cells #[.int .i64 (k : Int)] 3))
     refine ⟨k + 1, by omega, by go_num, ?_, hb2.grown H3.out hb2.size fun r e => (HOW.out.lt r e).1⟩
     rw [HX.out]
     have h9 := H2.out
     rw [ints_snoc] at h9
     rw [show (mkT O k ++ [(k : Int)]).length = (mkT O k).length + 1 by simp]
     exact h9
    case measure => simp [intOf]; omega
   ·have HX := Hd (mkT_no ho)
    have hne : (O k == 21) = false := by simpa using ho
    generalize O k = o at c0 hne
    clear ho
    go_wp2_with fail
    go_roundw
    case rel => exact ⟨k + 1, by omega, by go_num, by rw [HX.out]; exact HOW.out, HBE.out⟩
    case measure => simp [intOf]; omega
  ·obtain rfl : k = n := by omega
   obtain ⟨A3, c3, hv⟩ := own_form hown
   rw [HL.out] at hv hown
   subst hv
   have HOW := Hd hown
   have HBE := Hd hbel
   clear hown hbel
   go_wp2_with fail
   go_ret
   refine ⟨_, _, rfl, ?_, HBE.out⟩
   have h9 := SlV.of_own HOW.out
   exact h9
end Go.Proofs.YtdaimeaofgbfpaaGreat.By
namespace Go.Proofs.YtdaimeaofgbfpaaGreat.Rf
open Go.RowKit
end Go.Proofs.YtdaimeaofgbfpaaGreat.Rf
namespace Go.Proofs.YtdaimeaofgbfpaaGreat.By
open Go.RowKit
open Mem Gm Rf
attribute [local go_sem] Oper.semAt_some
def pnT (o : Nat → Bool) (k : Nat) : List Int := ((List.range k).filter o).map fun (i : Nat) => (i : Int)
theorem pnT_yes {o : Nat → Bool} {k : Nat} (h : o k = true) : pnT o (k + 1) = pnT o k ++ [(k : Int)] := by
 unfold pnT; rw [List.range_succ, List.filter_append]; simp [h]
theorem pnT_no {o : Nat → Bool} {k : Nat} (h : o k = false) : pnT o (k + 1) = pnT o k := by
 unfold pnT; rw [List.range_succ, List.filter_append]; simp [h]
theorem pnT_up (o : Nat → Bool) (k : Nat) : pnT o k <+: pnT o (k + 1) := by
 cases h : o k with
 | true => rw [pnT_yes h]; exact List.prefix_append _ _
 | false => rw [pnT_no h]; exact List.prefix_refl _
theorem pnT_pre (o : Nat → Bool) {k n : Nat} (h : k ≤ n) : pnT o k <+: pnT o n := by
 obtain ⟨d, rfl⟩ := Nat.le.dest h
 clear h
 induction d with
 | zero => exact List.prefix_refl _
 | succ d ih => exact ih.trans (pnT_up o (k + d))
def pdO (n : Nat) (O T : Nat → Int) : Nat → Bool := reach (gph n O T) (behs n O T (mkT O n))
theorem rin_any (w : World) (x0 x1 x2 x3 x6 x7 x8 : Value) (f t p : Int) :
  Calls Tryz.prog 161 #[.agg #[x0, x1, x2, x3, .int .i64 f, .int .i64 t, x6, x7, x8], .int .i64 p] w fun e w' => e = .returned (.bool (decide (f ≤ p) && decide (p < t))) ∧ Below w.heap.size w w' := by
 obtain ⟨bl, hbl⟩ : ∃ bl, decide (p < t) = bl := ⟨_, rfl⟩
 by_cases h : f ≤ p
 focus
  have h1 : decide (f ≤ p) = true := decide_eq_true h
 rotate_left
 focus
  have h1 : decide (f ≤ p) = false := decide_eq_false h
 rotate_left
 all_goals
  rw [h1, hbl]
  go_enter Tryz.func161, Tryz.ntmps161
  go_wp2_with fail
  go_ret
  exact ⟨by simp, alloc_ _ _⟩
def inR (f t : Int) (xs : List Int) : Bool := xs.all fun p => decide (f ≤ p) && decide (p < t)
def ckV (f t : Int) (xs : List Int) : Int := if inR f t xs then 0 else 9
theorem inB_snoc (f t : Int) (xs : List Int) (x : Int) : inR f t (xs ++ [x]) = (inR f t xs && (decide (f ≤ x) && decide (x < t))) := by
 unfold inR; rw [List.all_append]; simp
theorem inB_pre {f t : Int} {xs ys : List Int} (h : xs <+: ys) (hx : inR f t xs = false) : inR f t ys = false := by
 obtain ⟨zs, rfl⟩ := h
 unfold inR at hx ⊢
 rw [List.all_append, hx]; rfl
def CkAns (x : Int) (w : World) (e : Ending) (w' : World) : Prop := e = .returned (.int .i64 x) ∧ Below w.heap.size w w'
end Go.Proofs.YtdaimeaofgbfpaaGreat.By
namespace Go.Proofs.YtdaimeaofgbfpaaGreat.By
open Go.RowKit
open Mem Gm Rf
theorem bw_cells {w : World} {A : Option Addr} {n c : Nat} {o : Nat → Bool} (h : BW w (.slice A n c) n o) (j : Nat) (hj : j < n) : ∃ ad, A = some ad ∧ w.cell? (ad.add j) = some (.bool (o j)) := by
 have hl : ((List.range n).map fun i => Value.bool (o i)).length = n := by simp
 have hv : ((List.range n).map fun i => Value.bool (o i))[j]? = some (.bool (o j)) := by
  rw [List.getElem?_map, List.getElem?_range hj]; rfl
 rcases SlV.inv h with ⟨_, h1, _⟩ | ⟨ad, rfl, _, _, _, hr⟩
 ·rw [h1] at hl; simp at hl; omega
 ·exact ⟨ad, rfl, (hr j _ hv).2⟩
set_option maxRecDepth 100000 in
set_option maxHeartbeats 4000000 in
theorem rngCheck_any (w : World) (x0 x1 x2 x3 x6 x8 : Value) (f t : Int) (A : Option Addr) (n c : Nat) (O T : Nat → Int) (o : Nat → Bool) (h : CW w A n c O T) (hn : n ≤ 1000) (ho : pdO n O T = o) :
  Calls Tryz.prog 122 #[.agg #[x0, x1, x2, x3, .int .i64 f, .int .i64 t, x6, .slice A n c, x8]] w (CkAns (ckV f t (pnT o n)) w) := by
 obtain ⟨L, hL⟩ : ∃ L, (mkT O n).length = L := ⟨_, rfl⟩
 have HM := Hd (fun X (hb : Below w.heap.size w X) => rmarks_any X A n c L O T (h.on hb) hn hL)
 have HAF := Hd (fun X (hb : Below w.heap.size w X) (A2 : Option Addr) (c2 : Nat) (hm : IW X (.slice A2 L c2) (mkT O n)) => rafter_w (h.on hb) hL hm ho hn (show L ≤ 1000 by rw [← hL]; have := mkT_length O n; omega))
 have HI := Hd (fun W p => rin_any W x0 x1 x2 x3 x6 (.slice A n c) x8 f t p)
 obtain ⟨W1, hW1⟩ : ∃ W1, w.alloc (.cells #[x0, x1, x2, x3, .int .i64 f, .int .i64 t, x6, .slice A n c, x8] 49) = W1 := ⟨_, rfl⟩
 have hsz1 : w.heap.size < W1.heap.size := by rw [← hW1]; simp
 have HB0 := Hd (show Below w.heap.size w W1 by rw [← hW1]; exact alloc_ _ _)
 have HX := Hd (show ∀ W, Below W1.heap.size W1 W → Blk W w.heap.size 49 #[x0, x1, x2, x3, .int .i64 f, .int .i64 t, x6, .slice A n c, x8] from fun W hb => (hb.block _ hsz1).trans (by rw [← hW1]; exact Blk.new w _ _))
 have hHeld : W1.drew.cell? ⟨w.heap.size, 7, none⟩ = some (.slice A n c) := (HX.out W1 (Below.refl _ _)).cell 7
 clear h hL ho
 go_enter Tryz.func122, Tryz.ntmps122
 go_wp2_with fail
 clear hW1
 have hD0 : Below W1.heap.size W1 W1.drew := drew_below W1
 refine wp_region_noPanic ?_
 refine wp_region_held_drew (S := fun W' => W'.cell? ⟨w.heap.size, 7, none⟩ = some (.slice A n c)) (by kernel_rfl) (hHeld) (fun hHeld => ?_)
 refine tk4Z 0 1 2 3 hHeld ?_
 refine rd1Z 4 (fun K hK => ?_)
 go_simp
 refine (HM.out W1.drew (to_ HB0.out hD0)).mono ?_
 rintro e w1 ⟨A1, c1, rfl, h1, b1⟩
 have H1 := Hd h1
 have HB1 := Hd (to_ hD0 b1)
 clear h1 b1
 try go_wp2_with fail
 refine hK.out _ _ ((HX.out _ HB1.out).cell 7) ?_
 clear hK K hHeld
 intro hHeld
 try simp only [Act.put, nmZ]
 refine rd1Z 5 (fun K hK => ?_)
 go_simp
 refine (HAF.out w1 (to_ HB0.out HB1.out) A1 c1 H1.out).mono ?_
 rintro e w2 ⟨A2, rfl, h2, b2⟩
 have HBW := Hd h2
 have HB2 := Hd (to_ HB1.out b2)
 clear h2 b2
 try go_wp2_with fail
 refine hK.out _ _ ((HX.out _ HB2.out).cell 7) ?_
 clear hK K hHeld
 intro hHeld
 try simp only [Act.put, nmZ]
 refine tk1Z 6 hHeld ?_
 refine wpAnyH_done (by kernel_rfl) ?_ _
 refine NoPanic.normal ?_
 go_wp2_with fail
 go_loopw [4] (fun i wr => ∃ k : Nat, k ≤ n ∧ i = .int .i64 (k : Int) ∧ Hid (inR f t (pnT o k) = true) ∧ Below w2.heap.size w2 wr) (fun i _ => n - (intOf i).toNat)
 case atStart => exact ⟨0, Nat.zero_le _, rfl, Hd rfl, Below.refl _ _⟩
 case round =>
  obtain ⟨k, hk, rfl, HIN, hbel⟩ := hrel
  have HBE := Hd hbel
  by_cases hlt : k < n
  ·have hkI : (k : Int) < (n : Int) := by omega
   obtain ⟨ad, rfl, hc⟩ := bw_cells (BW.on HBW.out hbel) k hlt
   obtain ⟨b, hb⟩ : ∃ b, o k = b := ⟨_, rfl⟩
   rw [hb] at hc
   cases b with
   | true =>
    obtain ⟨c0, c1, c2, c3, c4, c5, c6, c7, c8⟩ := blk9 (HX.out wr (to_ HB2.out hbel))
    have HS := Hd (inB_snoc f t (pnT o k) (k : Int))
    rw [HIN.out, ← pnT_yes hb] at HS
    have HC := Hd (HI.out wr (k : Int))
    generalize (decide (f ≤ (k : Int)) && decide ((k : Int) < t)) = bl at HS HC
    clear hb hbel HIN
    cases bl with
    | true =>
     go_wp2_with (go_at_call 161; refine HC.out.mono ?_; rintro e w5 ⟨rfl, b5⟩; have HB5 := Hd b5; clear b5)
     go_roundw
     case rel => exact ⟨k + 1, by omega, by go_num, HS, to_ HBE.out HB5.out⟩
     case measure => simp [intOf]; omega
    | false =>
     have HV := Hd (show ckV f t (pnT o n) = 9 by unfold ckV; rw [inB_pre (pnT_pre o (show k + 1 ≤ n by omega)) HS.out]; rfl)
     go_wp2_with (go_at_call 161; refine HC.out.mono ?_; rintro e w5 ⟨rfl, b5⟩; have HB5 := Hd b5; clear b5)
     go_ret
     exact ⟨by rw [HV.out]; rfl, to_ (to_ HB0.out (to_ HB2.out HBE.out)) HB5.out⟩
   | false =>
    have HS := Hd (show inR f t (pnT o (k + 1)) = true by rw [pnT_no hb]; exact HIN.out)
    clear hb hbel HIN
    go_wp2_with fail
    go_roundw
    case rel => exact ⟨k + 1, by omega, by go_num, HS, HBE.out⟩
    case measure => simp [intOf]; omega
  ·obtain rfl : k = n := by omega
   have HV := Hd (show ckV f t (pnT o k) = 0 by unfold ckV; rw [if_pos HIN.out])
   clear hbel
   go_wp2_with fail
   go_ret
   exact ⟨by rw [HV.out]; rfl, to_ HB0.out (to_ HB2.out HBE.out)⟩
end Go.Proofs.YtdaimeaofgbfpaaGreat.By
