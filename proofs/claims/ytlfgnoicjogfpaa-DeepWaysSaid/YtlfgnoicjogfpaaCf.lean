/-
  WALK of layer 11: within.
-/
import Derived.Test.YtlfgnoicjogfpaaCe
namespace Go.Proofs.Ytlfgnoicjogfpaa.By
open Go.RowKit
open Mem Gm Rf

/-- The edges that are left when the rows ahead of the k-th one have those between members alone. -/
def RW (g : List (List Int)) (ins : List Bool) (k a b : Nat) : Bool := E g a b && (!decide (a < k) || (memV ins a && memV ins b))
def coeL (l : List Nat) : List Int := l.map fun (b : Nat) => (b : Int)
theorem ints_coe (l : List Nat) : ints (coeL l) = nats l := by simp [ints, nats, coeL]
/-- The graph of the edges between members alone. -/
def innG (g : List (List Int)) (ins : List Bool) : List (List Int) := gr g.length fun a b => E g a b && (memV ins a && memV ins b)

theorem RW_zero (g : List (List Int)) (ins : List Bool) : gr g.length (RW g ins 0) = clean g := gr_ext _ fun a b _ _ => by simp [RW]
theorem RW_all (g : List (List Int)) (ins : List Bool) : gr g.length (RW g ins g.length) = innG g ins := gr_ext _ fun a b ha _ => by simp [RW, ha]
theorem gr_rowOf {n : Nat} {R : Nat → Nat → Bool} {a : Nat} (ha : a < n) : rowOf (gr n R) a = coeL ((List.range n).filter (R a)) := gr_row ha
theorem stay_row (g : List (List Int)) (ins : List Bool) (n k : Nat) : stayN ins k ((List.range n).filter (RW g ins k k)) = (List.range n).filter (RW g ins (k + 1) k) := by
  unfold stayN
  rw [List.filter_filter]
  refine List.filter_congr fun b _ => ?_
  simp [RW, outB, Bool.and_comm]
theorem RW_set (g : List (List Int)) (ins : List Bool) (n k : Nat) : (gr n (RW g ins k)).set k (coeL (stayN ins k ((List.range n).filter (RW g ins k k)))) = gr n (RW g ins (k + 1)) := by
  rw [stay_row]
  apply List.ext_getElem
  · rw [List.length_set, gr_length, gr_length]
  · intro i h1 h2
    rw [gr_length] at h2
    have e1 : ∀ (R : Nat → Nat → Bool) (h : i < (gr n R).length), (gr n R)[i] = coeL ((List.range n).filter (R i)) := fun R h => by
      have := gr_rowOf (R := R) h2
      unfold rowOf at this
      rwa [List.getD_eq_getElem?_getD, List.getElem?_eq_getElem h] at this
    rw [List.getElem_set]
    split
    · rename_i e; subst e; rw [e1]
    · rename_i e
      rw [e1, e1]
      congr 1
      refine List.filter_congr fun b _ => ?_
      have : decide (i < k) = decide (i < k + 1) := by
        by_cases h : i < k
        · simp [h]; omega
        · simp [h]; omega
      simp [RW, this]

def InnAns (N : Nat) (r : List (List Int)) (w : World) (e : Ending) (w' : World) : Prop :=
  ∃ rb base, w.heap.size ≤ rb ∧ rb < base ∧ e = .returned (.slice (some ⟨rb, 0, none⟩) N N) ∧ OwnG w' rb base 26 3 r ∧ Below w.heap.size w w'

set_option linter.unusedSimpArgs false in
set_option maxRecDepth 100000 in
set_option maxHeartbeats 4000000 in
theorem within_any (A A2 : Option Addr) (c c2 M B : Nat) (g : List (List Int)) (ins : List Bool) (w : World) (hG : Gr w B (.slice A g.length c) g) (hM : ins.length = M) (hI : SlV w B (.slice A2 M c2) (bls ins)) (hB : B ≤ w.heap.size) (hs : Small g) :
    Calls Try.prog 59 #[.slice A g.length c, .slice A2 M c2] w (InnAns g.length (innG g ins) w) := by
  have HC := Lib.hid (fun W (h : Gr W B (.slice A g.length c) g) (hb : B ≤ W.heap.size) => clean_own A c B g W h hb hs)
  have HG := Lib.hid hG
  have HI := Lib.hid hI
  have HN1 := Lib.hid hs.1
  have HZ := Lib.hid (RW_zero g ins)
  have HA := Lib.hid (RW_all g ins)
  have HS := Lib.hid (RW_set g ins g.length)
  have HR := Lib.hid (fun k (h : k < g.length) => gr_rowOf (R := RW g ins k) h)
  have HLN := Lib.hid (fun k => gr_length g.length (RW g ins k))
  clear hG hI hs
  generalize g.length = N at *
  go_enter Try.func59, Try.ntmps59
  have B0 := Lib.hid ((Below.refl w.heap.size w).alloc (Nat.le_refl _) (.cells #[.slice A2 M c2] 23))
  have X0 := Lib.hid (Blk.new w 23 #[.slice A2 M c2])
  have HC1 := Lib.hid (HC.out _ (HG.out.below (B0.out.mono hB)) (by simp; omega))
  go_wp2_with fail
  refine HC1.out.mono ?_
  rintro e w1 ⟨rfl, ⟨base, hbase, hown⟩, hb1⟩
  rw [show (w.alloc (.cells #[.slice A2 M c2] 23)).heap.size = w.heap.size + 1 by simp] at hbase hown hb1 ⊢
  have X1 := Lib.hid (X0.out.below hb1 (by omega))
  have B1 := Lib.hid (B0.out.trans (hb1.mono (by omega)))
  have hI1 := Lib.hid (HI.out.below (B1.out.mono hB))
  have hlt1 := hown.lt
  have hO0 : OwnG w1 (w.heap.size + 1) base 26 3 (gr N (RW g ins 0)) := by rw [HZ.out]; exact hown
  have hn1000 := HN1.out
  clear hown hb1 B0 X0 HC1
  go_wp2_with fail
  go_loopw [12] (fun i wr => ∃ k : Nat, k ≤ N ∧ i = .int .i64 k ∧ OwnG wr (w.heap.size + 1) base 26 3 (gr N (RW g ins k)) ∧ Keeps (fun k => k ≠ w.heap.size + 1 ∧ k < base) w1 wr) (fun i _ => N - (intOf i).toNat)
  case atStart => exact ⟨0, Nat.zero_le _, rfl, hO0, Keeps.refl _ _⟩
  case round =>
    obtain ⟨k, hk, rfl, hO, hK⟩ := hrel
    obtain ⟨wz, hwz⟩ : ∃ wz, wz = wr := ⟨_, rfl⟩
    subst hwz
    by_cases hlt : k < N
    · have hkI : (k : Int) < (N : Int) := by omega
      have hlt2 := hO.lt
      obtain ⟨W1, hW1⟩ : ∃ W1, wz.alloc (.cells #[.int .i64 (k : Int)] 3) = W1 := ⟨_, rfl⟩
      have hsz1 : W1.heap.size = wz.heap.size + 1 := by rw [← hW1]; simp
      have hO1 : OwnG W1 (w.heap.size + 1) base 26 3 (gr N (RW g ins k)) := hO.keep fun q _ hq => by rw [← hW1]; exact Below.heap_alloc _ _ _ hq
      have hY1 : Blk W1 wz.heap.size 3 #[.int .i64 (k : Int)] := by rw [← hW1]; exact Blk.new _ _ _
      obtain ⟨rv, hcell, hfr, hone, hrow, ⟨RA, RC, hrv⟩, hput⟩ := hO1.at_ hbase (a := k) (by rw [HLN.out]; exact hlt)
      have hcz : wz.cell? ⟨w.heap.size + 1, k, none⟩ = some rv := by
        rw [← hcell, ← hW1]
        exact (World.cell?_of_block (Below.heap_alloc wz (.cells #[.int .i64 (k : Int)] 3) _ hlt2)).symm
      have hrb : rv.ownBlock ≠ some wz.heap.size := fun e => by
        have h9 := (hO1.at_ hbase (a := k) (by rw [HLN.out]; exact hlt))
        have := (hO.at_ hbase (a := k) (by rw [HLN.out]; exact hlt))
        obtain ⟨rv2, hc2, _, _, hr2, _⟩ := this
        have e2 : rv2 = rv := by rw [hcz] at hc2; exact (Option.some.inj hc2).symm
        subst e2
        have := (hr2.lt _ e).2
        omega
      rw [HR.out k hlt, ints_coe] at hrow
      have hlen : (coeL ((List.range N).filter (RW g ins k k))).length = ((List.range N).filter (RW g ins k k)).length := by simp [coeL]
      rw [hlen] at hrow
      have hI2 := hI1.out
      have hX2 : Blk W1 w.heap.size 23 #[.slice A2 M c2] := by
        rw [← hW1]
        exact Blk.alloc ((hK.block _ (by omega) X1.out.lt).trans X1.out) _
      have hClo : Clo W1 B w.heap.size wz.heap.size ins k := ⟨⟨A2, M, c2, hM, hI1.out.keep fun p hp => by
          rw [← hW1, World.cell?_of_block (Below.heap_alloc wz _ _ (by have := hK.size; omega))]
          exact World.cell?_of_block (hK.block _ (by omega) (by omega)), by rw [hX2.cell]; rfl⟩, by rw [hY1.cell]; rfl⟩
      have HD := Lib.hid (del_own W1.drew base B w.heap.size wz.heap.size k rv ins ((List.range N).filter (RW g ins k k)) hrow (hClo.keep fun _ _ => rfl) (by omega) (fun e => by have := (hrow.lt _ e).1; omega) hrb (by show B ≤ W1.heap.size; omega))
      have HRB := Lib.hid hrb
      have HP := Lib.hid hput
      have HSET := Lib.hid (HS.out k)
      have HOB := Lib.hid (show ∀ r, rv.ownBlock = some r → base ≤ r from fun r e => (hrow.lt r e).1)
      have HNE : Hid (some (w.heap.size + 1) ≠ rv.ownBlock) := fun e => by have := HOB.out _ e.symm; omega
      have HFR : Hid (W1.frozen? ⟨w.heap.size + 1, k, none⟩ = false) := hfr
      have HK1 := Lib.hid (show Keeps (fun k => k ≠ w.heap.size + 1 ∧ k < base) w1 W1 by rw [← hW1]; exact hK.alloc _)
      have hk0 : W1.cell? ⟨wz.heap.size, 0, none⟩ = some (.int .i64 (k : Int)) := by rw [hY1.cell]; rfl
      have hk00 : (0 : Int) ≤ (k : Int) := by omega
      rw [HR.out k hlt, hlen] at hrv
      generalize (List.range N).filter (RW g ins k k) = L0 at *
      subst hrv
      clear hput hO hO1 hone hrow hfr hClo hX2 hI2 hrb hK hlen
      go_wp2_with fail
      refine wp_region_noPanic ?_
      refine wp_region_held_drew (S := fun W' => W'.cell? ⟨wz.heap.size, 0, none⟩ = some (.int .i64 (k : Int))) (by kernel_rfl) (hk0) (fun hHeld => ?_)
      refine wpAnyH_take (i := 0) rfl (by kernel_rfl) (by kernel_rfl) (by kernel_rfl) (fun _ _ _ h => h) (Or.inl ⟨by rfl, by intro W hSW; (try dsimp only at hSW); go_simp; try (with_reducible rfl)⟩) hHeld ?_
      try simp only [Act.put, List.getElem_toArray, List.getElem_cons_zero, List.getElem_cons_succ, List.setIfInBounds_toArray, List.set_cons_zero, List.set_cons_succ]
      refine wpAnyH_take (i := 1) rfl (by kernel_rfl) (by kernel_rfl) (by kernel_rfl) (fun _ _ _ h => h) (Or.inl ⟨by rfl, by intro W hSW; (try dsimp only at hSW); go_simp; try (with_reducible rfl)⟩) hHeld ?_
      try simp only [Act.put, List.getElem_toArray, List.getElem_cons_zero, List.getElem_cons_succ, List.setIfInBounds_toArray, List.set_cons_zero, List.set_cons_succ]
      refine wpAnyH_take (i := 2) rfl (by kernel_rfl) (by kernel_rfl) (by kernel_rfl) (fun _ _ _ h => h) (Or.inl ⟨by rfl, by intro W hSW; (try dsimp only at hSW); go_simp; try (with_reducible rfl)⟩) hHeld ?_
      try simp only [Act.put, List.getElem_toArray, List.getElem_cons_zero, List.getElem_cons_succ, List.setIfInBounds_toArray, List.set_cons_zero, List.set_cons_succ]
      refine wpAnyH_take (i := 3) rfl (by kernel_rfl) (by kernel_rfl) (by kernel_rfl) (fun _ _ _ h => h) (Or.inl ⟨by rfl, by intro W hSW; (try dsimp only at hSW); go_simp; try (with_reducible rfl)⟩) hHeld ?_
      try simp only [Act.put, List.getElem_toArray, List.getElem_cons_zero, List.getElem_cons_succ, List.setIfInBounds_toArray, List.set_cons_zero, List.set_cons_succ]
      refine wpAnyH_ready (rs := [4]) (by kernel_rfl) (by simp) ?_
      refine AllReadyH.cons rfl (fun K hK => ?_) AllReadyH.nil
      go_simp
      refine HD.out.mono ?_; rintro e w2 ⟨CA, CC, rfl, hown2, hg2, hob2⟩
      try go_wp2_with fail
      refine hK.out _ _ (hg2.cell hk0 (fun e => HRB.out e.symm)) ?_
      clear hK K hHeld
      intro hHeld
      try simp only [Act.put, List.getElem_toArray, List.getElem_cons_zero, List.getElem_cons_succ, List.setIfInBounds_toArray, List.set_cons_zero, List.set_cons_succ]
      have hg : W1.grownBy w2 (Value.slice RA L0.length RC).ownBlock := ⟨hg2.os, hg2.tape, hg2.output, hg2.size, hg2.block⟩
      have c2 := hg.cell hcell HNE.out
      have hlt3 : w.heap.size + 1 < W1.heap.size := by omega
      have f2 : w2.frozen? ⟨w.heap.size + 1, k, none⟩ = false := (World.frozen?_of_block (hg.block _ hlt3 HNE.out)).trans HFR.out
      refine wpAnyH_take (i := 5) rfl (by kernel_rfl) (by kernel_rfl) (by kernel_rfl) (fun _ _ _ h => h) (Or.inl ⟨by rfl, by intro W hSW; (try dsimp only at hSW); go_simp; try (with_reducible rfl)⟩) hHeld ?_
      try simp only [Act.put, List.getElem_toArray, List.getElem_cons_zero, List.getElem_cons_succ, List.setIfInBounds_toArray, List.set_cons_zero, List.set_cons_succ]
      refine wpAnyH_ready (rs := [6]) (by kernel_rfl) (by simp) ?_
      refine AllReadyH.cons rfl (fun K hK => ?_) AllReadyH.nil
      go_simp
      refine hK.out _ _ (by rw [World.cell?_setCell_other _ _ _ _ (by simp)]; exact hHeld) ?_
      clear hK K hHeld
      intro hHeld
      try simp only [Act.put, List.getElem_toArray, List.getElem_cons_zero, List.getElem_cons_succ, List.setIfInBounds_toArray, List.set_cons_zero, List.set_cons_succ]
      refine wpAnyH_done (by kernel_rfl) ?_ _
      refine NoPanic.normal ?_
      have hfin := HP.out _ (coeL (stayN ins k L0)) w2 rfl (by rw [ints_coe]; have e : (coeL (stayN ins k L0)).length = (stayN ins k L0).length := by simp [coeL]
                                                               rw [e]; exact hown2) (.inr (.inl hob2)) (fun q _ hq hne => hg.block q hq (fun e => hne e.symm))
      rw [HSET.out] at hfin
      have hKf : Keeps (fun k => k ≠ w.heap.size + 1 ∧ k < base) w1 (w2.setCell ⟨w.heap.size + 1, k, none⟩ (.slice CA (stayN ins k L0).length CC)) :=
        (HK1.out.grown hg fun r e h => by have := HOB.out r e; omega).setCell (by simp) _
      go_wp2_with fail
      go_roundw
      case rel => exact ⟨k + 1, by omega, by go_num, hfin, hKf⟩
      case measure => simp [intOf]; omega
    · obtain rfl : k = N := by omega
      have hkI : ¬ (k : Int) < (k : Int) := by omega
      rw [HA.out] at hO
      go_wp2_with fail
      go_ret
      exact ⟨w.heap.size + 1, base, by omega, hbase, rfl, hO, B1.out.trans (hK.below (by omega) fun q hq => by omega)⟩
end Go.Proofs.Ytlfgnoicjogfpaa.By
