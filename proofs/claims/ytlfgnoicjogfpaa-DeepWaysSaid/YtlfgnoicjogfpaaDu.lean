/-
  WALK: how deep places go, and on which way, as the document says.
-/
import Derived.Test.YtlfgnoicjogfpaaDs
import Derived.Test.YtlfgnoicjogfpaaDq
import Derived.Test.YtlfgnoicjogfpaaDr
import Derived.Deep.RegionHeld3
namespace Go.Proofs.Ytlfgnoicjogfpaa.By
open Go.RowKit
open Mem Gm Rf Dp
set_option linter.unusedSimpArgs false

/-- Three numbers, boxed. -/
def C3 (w : World) (p : Nat) (x y z : Int) : Prop := p < w.heap.size ∧ w.cell? ⟨p, 0, none⟩ = some (.int .i64 x) ∧ w.cell? ⟨p, 1, none⟩ = some (.int .i64 y) ∧ w.cell? ⟨p, 2, none⟩ = some (.int .i64 z)
theorem C3.new (w : World) (x y z : Int) (t : TypeId) : C3 (w.alloc (.cells #[.int .i64 x, .int .i64 y, .int .i64 z] t)) w.heap.size x y z := by
  have hb := Blk.new w t #[.int .i64 x, .int .i64 y, .int .i64 z]
  exact ⟨hb.lt, (hb.cell 0).trans rfl, (hb.cell 1).trans rfl, (hb.cell 2).trans rfl⟩
theorem C3.on {w w' : World} {p : Nat} {x y z : Int} (h : C3 w p x y z) (b : Below w.heap.size w w') : C3 w' p x y z :=
  ⟨Nat.lt_of_lt_of_le h.1 b.size, by rw [b.cell h.1]; exact h.2.1, by rw [b.cell h.1]; exact h.2.2.1, by rw [b.cell h.1]; exact h.2.2.2⟩
theorem depV_few {g : List (List Int)} {ins : List Bool} {own : List Int} {r s : Int} : ((depV g ins own r s).getD []).length ≤ g.length := by
  unfold depV
  cases ordV g ins with
  | none => exact Nat.zero_le _
  | some l => simp [depL]
theorem worI_few {g : List (List Int)} {ins : List Bool} {own : List Int} {r s a : Int} : (worI g ins own r s a).length ≤ g.length + 1 := by
  unfold worI
  cases h : ordV g ins with
  | none => exact Nat.zero_le _
  | some l =>
    show (if _ then _ else _ : List Int).length ≤ _
    split
    · have ho := ordV_some h
      have h1 : l.length ≤ g.length := nodup_len _ _ ho.nodup fun x hx => ((ho.mem x).1 hx).1
      have h2 := worL_few (g := g) (ins := ins) (d := fun p => el (depL g ins own r s l) p) l.length a.toNat
      unfold coI
      rw [List.length_map, List.length_cons]
      omega
    · exact Nat.zero_le _

set_option maxHeartbeats 8000000 in
set_option maxRecDepth 100000 in
theorem deepTells_any (w : World) (A A2 A3 : Option Addr) (c c2 c3 N M K : Nat) (g : List (List Int)) (ins : List Bool) (own : List Int) (x y z : Int) (hN : g.length = N) (hM : ins.length = M) (hK : own.length = K) (h : GW w (.slice A N c) g) (hI : LW w (.slice A2 M c2) ins) (hO : IW w (.slice A3 K c3) own) :
    Calls Try.prog 6 #[.slice A N c, .slice A2 M c2, .slice A3 K c3, .agg #[.int .i64 x, .int .i64 y, .int .i64 z]] w (TAns w) := by
  have HN := Lib.hid hN
  have HM := Lib.hid hM
  have HK := Lib.hid hK
  have HG := Lib.hid h
  have HI := Lib.hid hI
  have HO := Lib.hid hO
  clear hN hM hK h hI hO
  go_enter Try.func6, Try.ntmps6
  go_wp2_with fail
  have hw0 : ∃ wa, w.alloc (.cells #[.int .i64 x, .int .i64 y, .int .i64 z] 35) = wa := ⟨_, rfl⟩
  obtain ⟨wa, hwa⟩ := hw0
  have HB0 := Lib.hid (show Below w.heap.size w wa from by rw [← hwa]; exact (Below.refl _ w).alloc (Nat.le_refl _) _)
  have HC1 := Lib.hid (show C3 wa w.heap.size x y z from by rw [← hwa]; exact .new _ _ _ _ _)
  rw [hwa]
  clear hwa
  have HG1 := Lib.hid (HG.out.on HB0.out)
  have HI1 := Lib.hid (HI.out.on HB0.out)
  have HO1 := Lib.hid (HO.out.on HB0.out)
  clear HG HI HO
  refine (few_w _ _ _ _ g HN.out HG1.out).mono ?_
  rintro e w' ⟨bl, rfl, hbl, rfl⟩
  cases bl with
  | false =>
    clear hbl
    go_wp2_with fail
    refine (known12_any _).mono ?_
    rintro e w9 ⟨rfl, b9⟩
    have HB99 := Lib.hid ((to_ HB0.out (b9)))
    clear b9
    go_wp2_with fail
    go_ret
    exact ⟨rfl, HB99.out⟩
  | true =>
    have hs := hbl rfl
    clear hbl
    by_cases hm : 40 < M
    · have e0 : decide ((40 : Int) < (M : Int)) = true := decide_eq_true (by omega)
      clear hm
      go_wp2_with fail
      refine (known12_any _).mono ?_
      rintro e w9 ⟨rfl, b9⟩
      have HB99 := Lib.hid ((to_ HB0.out (b9)))
      clear b9
      go_wp2_with fail
      go_ret
      exact ⟨rfl, HB99.out⟩
    by_cases hk : 40 < K
    · have e1 : decide ((40 : Int) < (K : Int)) = true := decide_eq_true (by omega)
      have e0 : decide ((40 : Int) < (M : Int)) = false := decide_eq_false (by omega)
      clear hm hk
      go_wp2_with fail
      refine (known12_any _).mono ?_
      rintro e w9 ⟨rfl, b9⟩
      have HB99 := Lib.hid ((to_ HB0.out (b9)))
      clear b9
      go_wp2_with fail
      go_ret
      exact ⟨rfl, HB99.out⟩
    · have e0 : decide ((40 : Int) < (M : Int)) = false := decide_eq_false (by omega)
      have e1 : decide ((40 : Int) < (K : Int)) = false := decide_eq_false (by omega)
      obtain ⟨L1, hL1⟩ : ∃ L1, ((depV g ins own x y).getD []).length = L1 := ⟨_, rfl⟩
      obtain ⟨L2, hL2⟩ : ∃ L2, (worI g ins own x y z).length = L2 := ⟨_, rfl⟩
      have HS1 := Lib.hid (show L1 ≤ 24 by rw [← hL1]; exact Nat.le_trans depV_few hs.1)
      have HS2 := Lib.hid (show L2 ≤ 25 by rw [← hL2]; have := worI_few (g := g) (ins := ins) (own := own) (r := x) (s := y) (a := z); have := hs.1; omega)
      have HD1 := Lib.hid (fun w A A2 A3 c c2 c3 h hI hO => depths_w w A A2 A3 c c2 c3 N M K L1 g ins own x y HN.out HM.out HK.out hL1 h hI hO hs)
      have HD2 := Lib.hid (fun w A A2 A3 c c2 c3 h hI hO => rdepths_any w A A2 A3 c c2 c3 N M K L1 g ins own x y HN.out HM.out HK.out hL1 h hI hO hs)
      have HW1 := Lib.hid (fun w A A2 A3 c c2 c3 h hI hO => worst_any w A A2 A3 c c2 c3 N M K L2 g ins own x y z HN.out HM.out HK.out hL2 h hI hO hs)
      have HW2 := Lib.hid (fun w A A2 A3 c c2 c3 h hI hO => rworst_any w A A2 A3 c c2 c3 N M K L2 g ins own x y z HN.out HM.out HK.out hL2 h hI hO hs)
      have HL1 := Lib.hid hL1
      have HL2 := Lib.hid hL2
      clear hL1 hL2 hs hm hk
      generalize (depV g ins own x y).getD [] = l1 at HD1 HD2 HL1
      generalize (depV g ins own x y).isSome = x1 at HD1 HD2
      generalize worI g ins own x y z = l2 at HW1 HW2 HL2
      have hx1 : (x1 == x1) = true := by cases x1 <;> rfl
      obtain ⟨_, n00, n01, n02⟩ := HC1.out
      go_wp2_with fail
      refine (HD1.out _ _ _ _ _ _ _ HG1.out HI1.out HO1.out).mono ?_
      rintro e w1 ⟨X1, y1, rfl, h1, b1⟩
      have Ra1 := Lib.hid (h1)
      have Rg1 := Lib.hid (HG1.out.on b1)
      have Rm1 := Lib.hid (HI1.out.on b1)
      have Ro1 := Lib.hid (HO1.out.on b1)
      have Rn1 := Lib.hid (HC1.out.on b1)
      have HB1 := Lib.hid (to_ HB0.out b1)
      clear b1 h1 HG1 HI1 HO1 HC1 HB0
      obtain ⟨_, n10, n11, n12⟩ := Rn1.out
      go_wp2_with fail
      refine (HD2.out _ _ _ _ _ _ _ Rg1.out Rm1.out Ro1.out).mono ?_
      rintro e w2 ⟨X2, y2, rfl, h2, b2⟩
      have Rb2 := Lib.hid (h2)
      have Ra2 := Lib.hid (Ra1.out.on b2)
      have Rg2 := Lib.hid (Rg1.out.on b2)
      have Rm2 := Lib.hid (Rm1.out.on b2)
      have Ro2 := Lib.hid (Ro1.out.on b2)
      have Rn2 := Lib.hid (Rn1.out.on b2)
      have HB2 := Lib.hid (to_ HB1.out b2)
      clear b2 h2 Ra1 Rg1 Rm1 Ro1 Rn1 HB1
      obtain ⟨_, n20, n21, n22⟩ := Rn2.out
      go_wp2_with fail
      clear n00 n01 n02 n10 n11 n12 n20 n21 n22
      have D2 := Lib.hid (show Below w2.heap.size w2 w2.drew from (Below.refl _ _).drew)
      refine wp_region_noPanic ?_
      refine wp_region_held_drew (S := fun W => W.cell? ⟨w.heap.size, 0, none⟩ = some (.int .i64 x) ∧ W.cell? ⟨w.heap.size, 1, none⟩ = some (.int .i64 y) ∧ W.cell? ⟨w.heap.size, 2, none⟩ = some (.int .i64 z)) (by kernel_rfl) ((Rn2.out.on D2.out).2) (fun hHeld => ?_)
      refine wpAnyH_take (i := 0) rfl (by kernel_rfl) (by kernel_rfl) (by kernel_rfl) (fun _ _ _ h => h) (Or.inl ⟨by rfl, by intro W hSW; (try dsimp only at hSW); go_simp; try (with_reducible rfl)⟩) hHeld ?_
      try simp only [Act.put, List.getElem_toArray, List.getElem_cons_zero, List.getElem_cons_succ, List.setIfInBounds_toArray, List.set_cons_zero, List.set_cons_succ]
      refine wpAnyH_take (i := 1) rfl (by kernel_rfl) (by kernel_rfl) (by kernel_rfl) (fun _ _ _ h => h) (Or.inl ⟨by rfl, by intro W hSW; (try dsimp only at hSW); go_simp; try (with_reducible rfl)⟩) hHeld ?_
      try simp only [Act.put, List.getElem_toArray, List.getElem_cons_zero, List.getElem_cons_succ, List.setIfInBounds_toArray, List.set_cons_zero, List.set_cons_succ]
      refine wpAnyH_ready (rs := [2]) (by kernel_rfl) (by simp) ?_
      refine AllReadyH.cons rfl (fun K9 hK9 => ?_) AllReadyH.nil
      go_simp
      refine (ints_w _ _ _ _ _ L1 l1 HL1.out (Ra2.out.on D2.out) (Rb2.out.on D2.out) (by have := HS1.out; omega)).mono ?_
      rintro e w3 ⟨rfl, b3⟩
      have Rg3 := Lib.hid ((Rg2.out.on D2.out).on b3)
      have Rm3 := Lib.hid ((Rm2.out.on D2.out).on b3)
      have Ro3 := Lib.hid ((Ro2.out.on D2.out).on b3)
      have Rn3 := Lib.hid ((Rn2.out.on D2.out).on b3)
      have HB3 := Lib.hid (to_ (to_ HB2.out D2.out) b3)
      clear b3 Rb2 Ra2 Rg2 Rm2 Ro2 Rn2 HB2
      try go_wp2_with fail
      refine hK9.out _ _ (Rn3.out.2) ?_
      clear hK9 K9 hHeld
      intro hHeld
      try simp only [Act.put, List.getElem_toArray, List.getElem_cons_zero, List.getElem_cons_succ, List.setIfInBounds_toArray, List.set_cons_zero, List.set_cons_succ]
      refine wpAnyH_take (i := 3) rfl (by kernel_rfl) (by kernel_rfl) (by kernel_rfl) (fun _ _ _ h => h) (Or.inl ⟨by rfl, by intro W hSW; (try dsimp only at hSW); go_simp; try (with_reducible rfl)⟩) hHeld ?_
      try simp only [Act.put, List.getElem_toArray, List.getElem_cons_zero, List.getElem_cons_succ, List.setIfInBounds_toArray, List.set_cons_zero, List.set_cons_succ]
      refine wpAnyH_take (i := 4) rfl (by kernel_rfl) (by kernel_rfl) (by kernel_rfl) (fun _ _ _ h => h) (Or.inl ⟨by rfl, by intro W hSW; (try dsimp only at hSW); go_simp; try (with_reducible rfl)⟩) hHeld ?_
      try simp only [Act.put, List.getElem_toArray, List.getElem_cons_zero, List.getElem_cons_succ, List.setIfInBounds_toArray, List.set_cons_zero, List.set_cons_succ]
      refine wpAnyH_take (i := 5) rfl (by kernel_rfl) (by kernel_rfl) (by kernel_rfl) (fun _ _ _ h => h) (Or.inl ⟨by rfl, by intro W hSW; (try dsimp only at hSW); go_simp; try (with_reducible rfl)⟩) hHeld ?_
      try simp only [Act.put, List.getElem_toArray, List.getElem_cons_zero, List.getElem_cons_succ, List.setIfInBounds_toArray, List.set_cons_zero, List.set_cons_succ]
      refine wpAnyH_take (i := 6) rfl (by kernel_rfl) (by kernel_rfl) (by kernel_rfl) (fun _ _ _ h => h) (Or.inl ⟨by rfl, by intro W hSW; (try dsimp only at hSW); go_simp; try (with_reducible rfl)⟩) hHeld ?_
      try simp only [Act.put, List.getElem_toArray, List.getElem_cons_zero, List.getElem_cons_succ, List.setIfInBounds_toArray, List.set_cons_zero, List.set_cons_succ]
      refine wpAnyH_take (i := 7) rfl (by kernel_rfl) (by kernel_rfl) (by kernel_rfl) (fun _ _ _ h => h) (Or.inl ⟨by rfl, by intro W hSW; (try dsimp only at hSW); go_simp; try (with_reducible rfl)⟩) hHeld ?_
      try simp only [Act.put, List.getElem_toArray, List.getElem_cons_zero, List.getElem_cons_succ, List.setIfInBounds_toArray, List.set_cons_zero, List.set_cons_succ]
      refine wpAnyH_take (i := 8) rfl (by kernel_rfl) (by kernel_rfl) (by kernel_rfl) (fun _ _ _ h => h) (Or.inl ⟨by rfl, by intro W hSW; (try dsimp only at hSW); go_simp; try (with_reducible rfl)⟩) hHeld ?_
      try simp only [Act.put, List.getElem_toArray, List.getElem_cons_zero, List.getElem_cons_succ, List.setIfInBounds_toArray, List.set_cons_zero, List.set_cons_succ]
      refine wpAnyH_take (i := 9) rfl (by kernel_rfl) (by kernel_rfl) (by kernel_rfl) (fun _ _ _ h => h) (Or.inl ⟨by rfl, by intro W hSW; (try dsimp only at hSW); go_simp; try (with_reducible rfl)⟩) hHeld ?_
      try simp only [Act.put, List.getElem_toArray, List.getElem_cons_zero, List.getElem_cons_succ, List.setIfInBounds_toArray, List.set_cons_zero, List.set_cons_succ]
      refine wpAnyH_take (i := 10) rfl (by kernel_rfl) (by kernel_rfl) (by kernel_rfl) (fun _ _ _ h => h) (Or.inl ⟨by rfl, by intro W hSW; (try dsimp only at hSW); go_simp; try (with_reducible rfl)⟩) hHeld ?_
      try simp only [Act.put, List.getElem_toArray, List.getElem_cons_zero, List.getElem_cons_succ, List.setIfInBounds_toArray, List.set_cons_zero, List.set_cons_succ]
      refine wpAnyH_take (i := 11) rfl (by kernel_rfl) (by kernel_rfl) (by kernel_rfl) (fun _ _ _ h => h) (Or.inl ⟨by rfl, by intro W hSW; (try dsimp only at hSW); go_simp; try (with_reducible rfl)⟩) hHeld ?_
      try simp only [Act.put, List.getElem_toArray, List.getElem_cons_zero, List.getElem_cons_succ, List.setIfInBounds_toArray, List.set_cons_zero, List.set_cons_succ]
      refine wpAnyH_take (i := 12) rfl (by kernel_rfl) (by kernel_rfl) (by kernel_rfl) (fun _ _ _ h => h) (Or.inl ⟨by rfl, by intro W hSW; (try dsimp only at hSW); go_simp; try (with_reducible rfl)⟩) hHeld ?_
      try simp only [Act.put, List.getElem_toArray, List.getElem_cons_zero, List.getElem_cons_succ, List.setIfInBounds_toArray, List.set_cons_zero, List.set_cons_succ]
      refine wpAnyH_take (i := 13) rfl (by kernel_rfl) (by kernel_rfl) (by kernel_rfl) (fun _ _ _ h => h) (Or.inl ⟨by rfl, by intro W hSW; (try dsimp only at hSW); go_simp; try (with_reducible rfl)⟩) hHeld ?_
      try simp only [Act.put, List.getElem_toArray, List.getElem_cons_zero, List.getElem_cons_succ, List.setIfInBounds_toArray, List.set_cons_zero, List.set_cons_succ]
      refine wpAnyH_take (i := 14) rfl (by kernel_rfl) (by kernel_rfl) (by kernel_rfl) (fun _ _ _ h => h) (Or.inl ⟨by rfl, by intro W hSW; (try dsimp only at hSW); go_simp; try (with_reducible rfl)⟩) hHeld ?_
      try simp only [Act.put, List.getElem_toArray, List.getElem_cons_zero, List.getElem_cons_succ, List.setIfInBounds_toArray, List.set_cons_zero, List.set_cons_succ]
      refine wpAnyH_take (i := 15) rfl (by kernel_rfl) (by kernel_rfl) (by kernel_rfl) (fun _ _ _ h => h) (Or.inl ⟨by rfl, by intro W hSW; (try dsimp only at hSW); go_simp; try (with_reducible rfl)⟩) hHeld ?_
      try simp only [Act.put, List.getElem_toArray, List.getElem_cons_zero, List.getElem_cons_succ, List.setIfInBounds_toArray, List.set_cons_zero, List.set_cons_succ]
      refine wpAnyH_take (i := 16) rfl (by kernel_rfl) (by kernel_rfl) (by kernel_rfl) (fun _ _ _ h => h) (Or.inl ⟨by rfl, by intro W hSW; (try dsimp only at hSW); go_simp; try (with_reducible rfl)⟩) hHeld ?_
      try simp only [Act.put, List.getElem_toArray, List.getElem_cons_zero, List.getElem_cons_succ, List.setIfInBounds_toArray, List.set_cons_zero, List.set_cons_succ]
      refine wpAnyH_take (i := 17) rfl (by kernel_rfl) (by kernel_rfl) (by kernel_rfl) (fun _ _ _ h => h) (Or.inl ⟨by rfl, by intro W hSW; (try dsimp only at hSW); go_simp; try (with_reducible rfl)⟩) hHeld ?_
      try simp only [Act.put, List.getElem_toArray, List.getElem_cons_zero, List.getElem_cons_succ, List.setIfInBounds_toArray, List.set_cons_zero, List.set_cons_succ]
      refine wpAnyH_take (i := 19) rfl (by kernel_rfl) (by kernel_rfl) (by kernel_rfl) (fun _ _ _ h => h) (Or.inl ⟨by rfl, by intro W hSW; (try dsimp only at hSW); go_simp; try (with_reducible rfl)⟩) hHeld ?_
      try simp only [Act.put, List.getElem_toArray, List.getElem_cons_zero, List.getElem_cons_succ, List.setIfInBounds_toArray, List.set_cons_zero, List.set_cons_succ]
      refine wpAnyH_take (i := 20) rfl (by kernel_rfl) (by kernel_rfl) (by kernel_rfl) (fun _ _ _ h => h) (Or.inl ⟨by rfl, by intro W hSW; (try dsimp only at hSW); go_simp; try (with_reducible rfl)⟩) hHeld ?_
      try simp only [Act.put, List.getElem_toArray, List.getElem_cons_zero, List.getElem_cons_succ, List.setIfInBounds_toArray, List.set_cons_zero, List.set_cons_succ]
      refine wpAnyH_take (i := 21) rfl (by kernel_rfl) (by kernel_rfl) (by kernel_rfl) (fun _ _ _ h => h) (Or.inl ⟨by rfl, by intro W hSW; (try dsimp only at hSW); go_simp; try (with_reducible rfl)⟩) hHeld ?_
      try simp only [Act.put, List.getElem_toArray, List.getElem_cons_zero, List.getElem_cons_succ, List.setIfInBounds_toArray, List.set_cons_zero, List.set_cons_succ]
      refine wpAnyH_take (i := 22) rfl (by kernel_rfl) (by kernel_rfl) (by kernel_rfl) (fun _ _ _ h => h) (Or.inl ⟨by rfl, by intro W hSW; (try dsimp only at hSW); go_simp; try (with_reducible rfl)⟩) hHeld ?_
      try simp only [Act.put, List.getElem_toArray, List.getElem_cons_zero, List.getElem_cons_succ, List.setIfInBounds_toArray, List.set_cons_zero, List.set_cons_succ]
      refine wpAnyH_take (i := 23) rfl (by kernel_rfl) (by kernel_rfl) (by kernel_rfl) (fun _ _ _ h => h) (Or.inl ⟨by rfl, by intro W hSW; (try dsimp only at hSW); go_simp; try (with_reducible rfl)⟩) hHeld ?_
      try simp only [Act.put, List.getElem_toArray, List.getElem_cons_zero, List.getElem_cons_succ, List.setIfInBounds_toArray, List.set_cons_zero, List.set_cons_succ]
      refine wpAnyH_take (i := 24) rfl (by kernel_rfl) (by kernel_rfl) (by kernel_rfl) (fun _ _ _ h => h) (Or.inl ⟨by rfl, by intro W hSW; (try dsimp only at hSW); go_simp; try (with_reducible rfl)⟩) hHeld ?_
      try simp only [Act.put, List.getElem_toArray, List.getElem_cons_zero, List.getElem_cons_succ, List.setIfInBounds_toArray, List.set_cons_zero, List.set_cons_succ]
      refine wpAnyH_take (i := 25) rfl (by kernel_rfl) (by kernel_rfl) (by kernel_rfl) (fun _ _ _ h => h) (Or.inl ⟨by rfl, by intro W hSW; (try dsimp only at hSW); go_simp; try (with_reducible rfl)⟩) hHeld ?_
      try simp only [Act.put, List.getElem_toArray, List.getElem_cons_zero, List.getElem_cons_succ, List.setIfInBounds_toArray, List.set_cons_zero, List.set_cons_succ]
      refine wpAnyH_take (i := 26) rfl (by kernel_rfl) (by kernel_rfl) (by kernel_rfl) (fun _ _ _ h => h) (Or.inl ⟨by rfl, by intro W hSW; (try dsimp only at hSW); go_simp; try (with_reducible rfl)⟩) hHeld ?_
      try simp only [Act.put, List.getElem_toArray, List.getElem_cons_zero, List.getElem_cons_succ, List.setIfInBounds_toArray, List.set_cons_zero, List.set_cons_succ]
      refine wpAnyH_take (i := 27) rfl (by kernel_rfl) (by kernel_rfl) (by kernel_rfl) (fun _ _ _ h => h) (Or.inl ⟨by rfl, by intro W hSW; (try dsimp only at hSW); go_simp; try (with_reducible rfl)⟩) hHeld ?_
      try simp only [Act.put, List.getElem_toArray, List.getElem_cons_zero, List.getElem_cons_succ, List.setIfInBounds_toArray, List.set_cons_zero, List.set_cons_succ]
      refine wpAnyH_ready (rs := [18]) (by kernel_rfl) (by simp) ?_
      refine AllReadyH.cons rfl (fun K9 hK9 => ?_) AllReadyH.nil
      go_simp
      refine (HW1.out _ _ _ _ _ _ _ Rg3.out Rm3.out Ro3.out).mono ?_
      rintro e w4 ⟨X4, y4, rfl, h4, b4⟩
      have Ra4 := Lib.hid (h4)
      have Rg4 := Lib.hid (Rg3.out.on b4)
      have Rm4 := Lib.hid (Rm3.out.on b4)
      have Ro4 := Lib.hid (Ro3.out.on b4)
      have Rn4 := Lib.hid (Rn3.out.on b4)
      have HB4 := Lib.hid (to_ HB3.out b4)
      clear b4 h4 Rg3 Rm3 Ro3 Rn3 HB3
      try go_wp2_with fail
      refine hK9.out _ _ (Rn4.out.2) ?_
      clear hK9 K9 hHeld
      intro hHeld
      try simp only [Act.put, List.getElem_toArray, List.getElem_cons_zero, List.getElem_cons_succ, List.setIfInBounds_toArray, List.set_cons_zero, List.set_cons_succ]

      refine wpAnyH_ready (rs := [28]) (by kernel_rfl) (by simp) ?_
      refine AllReadyH.cons rfl (fun K9 hK9 => ?_) AllReadyH.nil
      go_simp
      refine (HW2.out _ _ _ _ _ _ _ Rg4.out Rm4.out Ro4.out).mono ?_
      rintro e w5 ⟨X5, y5, rfl, h5, b5⟩
      have Rb5 := Lib.hid (h5)
      have Ra5 := Lib.hid (Ra4.out.on b5)
      have Rn5 := Lib.hid (Rn4.out.on b5)
      have HB5 := Lib.hid (to_ HB4.out b5)
      clear b5 h5 Ra4 Rg4 Rm4 Ro4 Rn4 HB4
      try go_wp2_with fail
      refine hK9.out _ _ (Rn5.out.2) ?_
      clear hK9 K9 hHeld
      intro hHeld
      try simp only [Act.put, List.getElem_toArray, List.getElem_cons_zero, List.getElem_cons_succ, List.setIfInBounds_toArray, List.set_cons_zero, List.set_cons_succ]

      refine wpAnyH_ready (rs := [29]) (by kernel_rfl) (by simp) ?_
      refine AllReadyH.cons rfl (fun K9 hK9 => ?_) AllReadyH.nil
      go_simp
      refine (ints_w _ _ _ _ _ L2 l2 HL2.out Ra5.out Rb5.out (by have := HS2.out; omega)).mono ?_
      rintro e w6 ⟨rfl, b6⟩
      have Rn6 := Lib.hid (Rn5.out.on b6)
      have HB6 := Lib.hid (to_ HB5.out b6)
      clear b6 Rb5 Ra5 Rn5 HB5
      try go_wp2_with fail
      refine hK9.out _ _ (Rn6.out.2) ?_
      clear hK9 K9 hHeld
      intro hHeld
      try simp only [Act.put, List.getElem_toArray, List.getElem_cons_zero, List.getElem_cons_succ, List.setIfInBounds_toArray, List.set_cons_zero, List.set_cons_succ]
      refine wpAnyH_take (i := 30) rfl (by kernel_rfl) (by kernel_rfl) (by kernel_rfl) (fun _ _ _ h => h) (Or.inl ⟨by rfl, by intro W hSW; (try dsimp only at hSW); go_simp; try (with_reducible rfl)⟩) hHeld ?_
      try simp only [Act.put, List.getElem_toArray, List.getElem_cons_zero, List.getElem_cons_succ, List.setIfInBounds_toArray, List.set_cons_zero, List.set_cons_succ]
      refine wpAnyH_take (i := 31) rfl (by kernel_rfl) (by kernel_rfl) (by kernel_rfl) (fun _ _ _ h => h) (Or.inl ⟨by rfl, by intro W hSW; (try dsimp only at hSW); go_simp; try (with_reducible rfl)⟩) hHeld ?_
      try simp only [Act.put, List.getElem_toArray, List.getElem_cons_zero, List.getElem_cons_succ, List.setIfInBounds_toArray, List.set_cons_zero, List.set_cons_succ]
      refine wpAnyH_ready (rs := [32]) (by kernel_rfl) (by simp) ?_
      refine AllReadyH.cons rfl (fun K9 hK9 => ?_) AllReadyH.nil
      go_simp
      refine (known12_any _).mono ?_
      rintro e w7 ⟨rfl, b7⟩
      have Rn7 := Lib.hid (Rn6.out.on b7)
      have HB7 := Lib.hid (to_ HB6.out b7)
      clear b7 Rn6 HB6
      try go_wp2_with fail
      refine hK9.out _ _ (Rn7.out.2) ?_
      clear hK9 K9 hHeld
      intro hHeld
      try simp only [Act.put, List.getElem_toArray, List.getElem_cons_zero, List.getElem_cons_succ, List.setIfInBounds_toArray, List.set_cons_zero, List.set_cons_succ]
      refine wpAnyH_take (i := 33) rfl (by kernel_rfl) (by kernel_rfl) (by kernel_rfl) (fun _ _ _ h => h) (Or.inl ⟨by rfl, by intro W hSW; (try dsimp only at hSW); go_simp; try (with_reducible rfl)⟩) hHeld ?_
      try simp only [Act.put, List.getElem_toArray, List.getElem_cons_zero, List.getElem_cons_succ, List.setIfInBounds_toArray, List.set_cons_zero, List.set_cons_succ]
      refine wpAnyH_take (i := 34) rfl (by kernel_rfl) (by kernel_rfl) (by kernel_rfl) (fun _ _ _ h => h) (Or.inl ⟨by rfl, by intro W hSW; (try dsimp only at hSW); go_simp; try (with_reducible rfl)⟩) hHeld ?_
      try simp only [Act.put, List.getElem_toArray, List.getElem_cons_zero, List.getElem_cons_succ, List.setIfInBounds_toArray, List.set_cons_zero, List.set_cons_succ]
      refine wpAnyH_done (by kernel_rfl) ?_ _
      refine NoPanic.normal ?_
      go_wp2_with fail
      go_ret
      exact ⟨rfl, HB7.out⟩
end Go.Proofs.Ytlfgnoicjogfpaa.By
