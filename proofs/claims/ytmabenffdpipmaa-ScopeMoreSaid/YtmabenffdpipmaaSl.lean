/-
  WALKS of layer 23: bound, Find, Bound.
-/
import Derived.Test.YtmabenffdpipmaaSj
import Derived.Test.YtmabenffdpipmaaSh
namespace Go.Proofs.Ytmabenffdpipmaa.By
open Go.RowKit Go.Maps
open Mem Rf
set_option linter.unusedSimpArgs false
set_option linter.unusedVariables false

def bndE (r : Pl × Int) : Value := .tuple #[plV r.1, .int .i64 r.2]

set_option maxRecDepth 100000 in
set_option maxHeartbeats 4000000 in
theorem bound_in (A : Option Addr) (n c B : Nat) (os : List Ob) (m mk : Nat) (w : World) (hO : ObL w B A n c os) (hB : B ≤ w.heap.size) (hM : Mp w m mk (findV (lists os))) (i k : Nat) (hi : i < n) (hk : k < (obAt os i).n) (hnm : (syAt (obAt os i).l k).1.size ≤ maxLen) :
    Calls Try.prog 20 #[.slice A n c, .map (some m), plV (i, k)] w fun e w' => e = .returned (bndE (boundAt (lists os) (i, k))) ∧ Below w.heap.size w w' := by
  have hlen : (lists os).length = n := by rw [lists_length, hO.1.1]
  have hrow : ∀ j, j < n → rowS (lists os) j = (obAt os j).l := fun j hj => rowS_lists (by rw [hO.1.1]; exact hj)
  have hat : ∀ j l, j < n → atS (lists os) j l = syAt (obAt os j).l l := fun j l hj => by unfold atS; rw [hrow j hj]
  have HOWN := Lib.hid (fun e => boundAt_own (L := lists os) (p := (i, k)) e)
  have HNON := Lib.hid (fun e f => boundAt_none (L := lists os) (p := (i, k)) e f)
  have HCLA := Lib.hid (fun q e f g => boundAt_class (L := lists os) (p := (i, k)) (q := q) e f g)
  have HTO := Lib.hid (fun q e f g g2 => boundAt_to (L := lists os) (p := (i, k)) (q := q) e f g g2)
  have HFS := Lib.hid (fun nm q (h : findV (lists os) nm = some q) => findV_some h)
  dsimp only at HOWN HNON HCLA HTO
  obtain ⟨r, hr⟩ : ∃ r, boundAt (lists os) (i, k) = r := ⟨_, rfl⟩
  rw [hr, hat i k hi] at HOWN HNON HCLA HTO
  rw [hr]
  obtain ⟨f, hf⟩ : ∃ f, findV (lists os) = f := ⟨_, rfl⟩
  rw [hf] at HNON HCLA HTO HFS hM
  obtain ⟨W0, hW0⟩ : ∃ W0, (w.alloc (.cells #[.int .i64 (i : Int), .int .i64 (k : Int)] 46)).alloc (.cells #[.int .i64 0, .int .i64 0] 46) = W0 := ⟨_, rfl⟩
  have hb0 : Below w.heap.size w W0 := hW0 ▸ ((Below.refl _ _).alloc (Nat.le_refl _) _).alloc (by simp) _
  have hpb : Blk W0 w.heap.size 46 #[.int .i64 (i : Int), .int .i64 (k : Int)] := hW0 ▸ (Blk.new w _ _).alloc _
  have hrb : Blk W0 (w.heap.size + 1) 46 #[.int .i64 0, .int .i64 0] := by
    rw [← hW0]
    have := Blk.new (w.alloc (.cells #[.int .i64 (i : Int), .int .i64 (k : Int)] 46)) 46 #[.int .i64 0, .int .i64 0]
    rwa [World.size_alloc] at this
  have p0 : W0.cell? ⟨w.heap.size, 0, none⟩ = some (.int .i64 (i : Int)) := hpb.cell 0
  have p1 : W0.cell? ⟨w.heap.size, 1, none⟩ = some (.int .i64 (k : Int)) := hpb.cell 1
  have hlr := hrb.lt
  have HSY := Lib.hid (fun W (hb : Below w.heap.size w W) i k hi hk => symbolAt_any A n c B os W (hO.below (hb.mono hB)) (Nat.le_trans hB hb.size) i k hi hk)
  have HPB := Lib.hid hpb
  have HRB := Lib.hid hrb
  have HB0 := Lib.hid hb0
  have HM := Lib.hid hM
  have HRO := Lib.hid hrow
  have HAT := Lib.hid hat
  have HLE := Lib.hid hlen
  have HON := Lib.hid (fun i hi => (hO.2 i hi).1)
  have HC0 := Lib.hid (HSY.out W0 hb0 i k hi hk)
  clear hr hf hO hM hrow hat hlen hpb hrb hb0
  generalize lists os = L at *
  obtain ⟨s, hs⟩ : ∃ s, syAt (obAt os i).l k = s := ⟨_, rfl⟩
  rw [hs] at HOWN HNON HCLA HTO HC0 hnm
  clear hs
  obtain ⟨y0, y1, y2, y3, y4⟩ := s
  unfold syV plV at HC0
  dsimp only at HOWN HNON HCLA HTO HC0 hnm
  have hml := HM.out.lt
  by_cases hd : y4 = -1
  · have hd' : (y4 != -1) = false := by simp [hd]
    cases hf : f y0 with
    | none =>
      obtain rfl := HNON.out hd hf
      obtain ⟨ga, hga⟩ : ∃ ga : Nat, (gP (f y0)).1 = ga := ⟨_, rfl⟩
      obtain ⟨gb, hgb⟩ : ∃ gb : Nat, (gP (f y0)).2 = gb := ⟨_, rfl⟩
      have HGA := Lib.hid hga
      have HGB := Lib.hid hgb
      have HSM := Lib.hid (show (f y0).isSome = false by rw [hf]; rfl)
      clear hd hf hga hgb HNON HCLA HTO HOWN
      unfold plV
      have hb0w := HB0.out
      go_enter Try.func20, Try.ntmps20
      go_wp2_with (go_at_call 26; refine HC0.out.mono ?_; rintro e w2 ⟨rfl, hb2⟩; obtain ⟨w3, hw3⟩ : ∃ w3, w2.alloc (.cells #[.string y0, .bool y1, .int .i64 y2, .int .i64 y3, .int .i64 y4] 42) = w3 := ⟨_, rfl⟩; have hb3 : Below W0.heap.size W0 w3 := hw3 ▸ hb2.alloc hb2.size _; have hsb : Blk w3 w2.heap.size 42 #[.string y0, .bool y1, .int .i64 y2, .int .i64 y3, .int .i64 y4] := hw3 ▸ Blk.new _ _ _; have s4 : w3.cell? ⟨w2.heap.size, 4, none⟩ = some (.int .i64 y4) := hsb.cell 4; have s0 : w3.cell? ⟨w2.heap.size, 0, none⟩ = some (.string y0) := hsb.cell 0; have hlk := (HM.out.below (hb0w.trans (hb3.mono hb0w.size)) hml).look hnm; unfold plV at hlk; rw [HGA.out, HGB.out, HSM.out] at hlk; obtain ⟨w4, hw4⟩ : ∃ w4, w3.alloc (.cells #[.int .i64 (ga : Int), .int .i64 (gb : Int)] 46) = w4 := ⟨_, rfl⟩; have hb4 : Below W0.heap.size W0 w4 := hw4 ▸ hb3.alloc hb3.size _; have hrb4 := HRB.out.below hb4 HRB.out.lt; have r40 : w4.cell? ⟨w.heap.size + 1, 0, none⟩ = some (.int .i64 0) := hrb4.cell 0; have r41 : w4.cell? ⟨w.heap.size + 1, 1, none⟩ = some (.int .i64 0) := hrb4.cell 1; have f40 := hrb4.frozen 0; have f41 := hrb4.frozen 1; have HB4 := Lib.hid hb4; have HRB4 := Lib.hid hrb4; have hl4 := hrb4.lt; clear hb2 hb3 hb4 hrb4 hsb)
      have hfin : Blk ((w4.setCell ⟨w.heap.size + 1, 0, none⟩ (.int .i64 0)).setCell ⟨w.heap.size + 1, 1, none⟩ (.int .i64 0)) (w.heap.size + 1) 46 #[.int .i64 0, .int .i64 0] := (HRB4.out.stored 0 _).stored 1 _
      have q0 := hfin.cell 0
      have q1 := hfin.cell 1
      refine bodyPost_ret (v := bndE ((0, 0), 13)) (by simp [results, Try.results20, go_sem, bndE, plV, q0, q1]) rfl ⟨rfl, ?_⟩
      exact (((hb0w.trans (HB4.out.mono hb0w.size)).setCell (p := ⟨w.heap.size + 1, 0, none⟩) (by simp) _).setCell (p := ⟨w.heap.size + 1, 1, none⟩) (by simp) _)
    | some q =>
      obtain ⟨qa, qb⟩ := q
      obtain ⟨q1, q2, _, _⟩ := HFS.out y0 (qa, qb) hf
      dsimp only at q1 q2
      have q1' : qa < n := by have := HLE.out; omega
      have q2' : qb < (obAt os qa).n := by have h1 := HRO.out qa q1'; have h2 := HON.out qa q1'; rw [h1] at q2; omega
      have HCL := Lib.hid (fun g => HCLA.out (qa, qb) hd hf g)
      have HTT := Lib.hid (fun g g2 => HTO.out (qa, qb) hd hf g g2)
      dsimp only at HCL HTT
      rw [HAT.out qa qb q1'] at HCL HTT
      obtain ⟨⟨z0, z1, z2, z3, z4⟩, hz⟩ : ∃ z, syAt (obAt os qa).l qb = z := ⟨_, rfl⟩
      rw [hz] at HCL HTT
      dsimp only at HCL HTT
      have HZ := Lib.hid hz
      have HGA := Lib.hid (show (gP (f y0)).1 = qa by rw [hf]; rfl)
      have HGB := Lib.hid (show (gP (f y0)).2 = qb by rw [hf]; rfl)
      have HSM := Lib.hid (show (f y0).isSome = true by rw [hf]; rfl)
      clear hd hf hz q1 q2 HNON HCLA HTO HOWN
      unfold plV
      by_cases k2 : z2 = y2
      · by_cases k3 : z3 = y3
        · obtain rfl := HTT.out k2 k3
          have k2' : (z2 != y2) = false := by simp [k2]
          have k3' : (z3 != y3) = false := by simp [k3]
          clear k2 k3
          go_enter Try.func20, Try.ntmps20
          have hb0w := HB0.out
          go_wp2_with (go_at_call 26; refine HC0.out.mono ?_; rintro e w2 ⟨rfl, hb2⟩; obtain ⟨w3, hw3⟩ : ∃ w3, w2.alloc (.cells #[.string y0, .bool y1, .int .i64 y2, .int .i64 y3, .int .i64 y4] 42) = w3 := ⟨_, rfl⟩; have hb3 : Below W0.heap.size W0 w3 := hw3 ▸ hb2.alloc hb2.size _; have hsb : Blk w3 w2.heap.size 42 #[.string y0, .bool y1, .int .i64 y2, .int .i64 y3, .int .i64 y4] := hw3 ▸ Blk.new _ _ _; have s4 : w3.cell? ⟨w2.heap.size, 4, none⟩ = some (.int .i64 y4) := hsb.cell 4; have s0 : w3.cell? ⟨w2.heap.size, 0, none⟩ = some (.string y0) := hsb.cell 0; have hlk := (HM.out.below (hb0w.trans (hb3.mono hb0w.size)) hml).look hnm; unfold plV at hlk; rw [HGA.out, HGB.out, HSM.out] at hlk; obtain ⟨w4, hw4⟩ : ∃ w4, w3.alloc (.cells #[.int .i64 (qa : Int), .int .i64 (qb : Int)] 46) = w4 := ⟨_, rfl⟩; have hb4 : Below W0.heap.size W0 w4 := hw4 ▸ hb3.alloc hb3.size _; have hrb4 := HRB.out.below hb4 HRB.out.lt; have r40 : w4.cell? ⟨w.heap.size + 1, 0, none⟩ = some (.int .i64 0) := hrb4.cell 0; have r41 : w4.cell? ⟨w.heap.size + 1, 1, none⟩ = some (.int .i64 0) := hrb4.cell 1; have f40 := hrb4.frozen 0; have f41 := hrb4.frozen 1; have HB4 := Lib.hid hb4; have HRB4 := Lib.hid hrb4; have hl4 := hrb4.lt; have hsb4 : Blk w4 w2.heap.size 42 #[.string y0, .bool y1, .int .i64 y2, .int .i64 y3, .int .i64 y4] := hw4 ▸ hsb.alloc _; have HSB4 := Lib.hid hsb4; have htb4 : Blk w4 w3.heap.size 46 #[.int .i64 (qa : Int), .int .i64 (qb : Int)] := hw4 ▸ Blk.new _ _ _; have HTB4 := Lib.hid htb4; have t40 : w4.cell? ⟨w3.heap.size, 0, none⟩ = some (.int .i64 (qa : Int)) := htb4.cell 0; have t41 : w4.cell? ⟨w3.heap.size, 1, none⟩ = some (.int .i64 (qb : Int)) := htb4.cell 1; clear hb2 hb3 hb4 hrb4 hsb hsb4 htb4; go_wp2_with (go_at_call 26; refine (HSY.out w4 (HB0.out.trans (HB4.out.mono HB0.out.size)) qa qb q1' q2').mono ?_; rw [HZ.out]; unfold syV; dsimp only; rintro e w5 ⟨rfl, hb5⟩; obtain ⟨w6, hw6⟩ : ∃ w6, w5.alloc (.cells #[.string z0, .bool z1, .int .i64 z2, .int .i64 z3, .int .i64 z4] 42) = w6 := ⟨_, rfl⟩; have hb6 : Below w4.heap.size w4 w6 := hw6 ▸ hb5.alloc hb5.size _; have hzb : Blk w6 w5.heap.size 42 #[.string z0, .bool z1, .int .i64 z2, .int .i64 z3, .int .i64 z4] := hw6 ▸ Blk.new _ _ _; have zz2 : w6.cell? ⟨w5.heap.size, 2, none⟩ = some (.int .i64 z2) := hzb.cell 2; have zz3 : w6.cell? ⟨w5.heap.size, 3, none⟩ = some (.int .i64 z3) := hzb.cell 3; have hsb6 := HSB4.out.below hb6 HSB4.out.lt; have x2 : w6.cell? ⟨w2.heap.size, 2, none⟩ = some (.int .i64 y2) := hsb6.cell 2; have x3 : w6.cell? ⟨w2.heap.size, 3, none⟩ = some (.int .i64 y3) := hsb6.cell 3; have htb6 := HTB4.out.below hb6 HTB4.out.lt; have v0 : w6.cell? ⟨w3.heap.size, 0, none⟩ = some (.int .i64 (qa : Int)) := htb6.cell 0; have v1 : w6.cell? ⟨w3.heap.size, 1, none⟩ = some (.int .i64 (qb : Int)) := htb6.cell 1; have hrb6 := HRB4.out.below hb6 HRB4.out.lt; have r60 : w6.cell? ⟨w.heap.size + 1, 0, none⟩ = some (.int .i64 0) := hrb6.cell 0; have r61 : w6.cell? ⟨w.heap.size + 1, 1, none⟩ = some (.int .i64 0) := hrb6.cell 1; have f60 := hrb6.frozen 0; have f61 := hrb6.frozen 1; have HB6 := Lib.hid (HB4.out.trans (hb6.mono HB4.out.size)); have HRB6 := Lib.hid hrb6; have hl6 := hrb6.lt; clear hb5 hb6 hzb hsb6 htb6 hrb6))
          have hfin : Blk ((w6.setCell ⟨w.heap.size + 1, 0, none⟩ (.int .i64 (qa : Int))).setCell ⟨w.heap.size + 1, 1, none⟩ (.int .i64 (qb : Int))) (w.heap.size + 1) 46 #[.int .i64 (qa : Int), .int .i64 (qb : Int)] := (HRB6.out.stored 0 _).stored 1 _
          have q0 := hfin.cell 0
          have q1 := hfin.cell 1
          refine bodyPost_ret (v := bndE ((qa, qb), 0)) (by simp [results, Try.results20, go_sem, bndE, plV, q0, q1]) rfl ⟨rfl, ?_⟩
          exact (((hb0w.trans (HB6.out.mono hb0w.size)).setCell (p := ⟨w.heap.size + 1, 0, none⟩) (by simp) _).setCell (p := ⟨w.heap.size + 1, 1, none⟩) (by simp) _)
        · obtain rfl := HCL.out (.inr k3)
          have k2' : (z2 != y2) = false := by simp [k2]
          have k3' : (z3 != y3) = true := by simp [k3]
          clear k2 k3
          go_enter Try.func20, Try.ntmps20
          have hb0w := HB0.out
          go_wp2_with (go_at_call 26; refine HC0.out.mono ?_; rintro e w2 ⟨rfl, hb2⟩; obtain ⟨w3, hw3⟩ : ∃ w3, w2.alloc (.cells #[.string y0, .bool y1, .int .i64 y2, .int .i64 y3, .int .i64 y4] 42) = w3 := ⟨_, rfl⟩; have hb3 : Below W0.heap.size W0 w3 := hw3 ▸ hb2.alloc hb2.size _; have hsb : Blk w3 w2.heap.size 42 #[.string y0, .bool y1, .int .i64 y2, .int .i64 y3, .int .i64 y4] := hw3 ▸ Blk.new _ _ _; have s4 : w3.cell? ⟨w2.heap.size, 4, none⟩ = some (.int .i64 y4) := hsb.cell 4; have s0 : w3.cell? ⟨w2.heap.size, 0, none⟩ = some (.string y0) := hsb.cell 0; have hlk := (HM.out.below (hb0w.trans (hb3.mono hb0w.size)) hml).look hnm; unfold plV at hlk; rw [HGA.out, HGB.out, HSM.out] at hlk; obtain ⟨w4, hw4⟩ : ∃ w4, w3.alloc (.cells #[.int .i64 (qa : Int), .int .i64 (qb : Int)] 46) = w4 := ⟨_, rfl⟩; have hb4 : Below W0.heap.size W0 w4 := hw4 ▸ hb3.alloc hb3.size _; have hrb4 := HRB.out.below hb4 HRB.out.lt; have r40 : w4.cell? ⟨w.heap.size + 1, 0, none⟩ = some (.int .i64 0) := hrb4.cell 0; have r41 : w4.cell? ⟨w.heap.size + 1, 1, none⟩ = some (.int .i64 0) := hrb4.cell 1; have f40 := hrb4.frozen 0; have f41 := hrb4.frozen 1; have HB4 := Lib.hid hb4; have HRB4 := Lib.hid hrb4; have hl4 := hrb4.lt; have hsb4 : Blk w4 w2.heap.size 42 #[.string y0, .bool y1, .int .i64 y2, .int .i64 y3, .int .i64 y4] := hw4 ▸ hsb.alloc _; have HSB4 := Lib.hid hsb4; have htb4 : Blk w4 w3.heap.size 46 #[.int .i64 (qa : Int), .int .i64 (qb : Int)] := hw4 ▸ Blk.new _ _ _; have HTB4 := Lib.hid htb4; have t40 : w4.cell? ⟨w3.heap.size, 0, none⟩ = some (.int .i64 (qa : Int)) := htb4.cell 0; have t41 : w4.cell? ⟨w3.heap.size, 1, none⟩ = some (.int .i64 (qb : Int)) := htb4.cell 1; clear hb2 hb3 hb4 hrb4 hsb hsb4 htb4; go_wp2_with (go_at_call 26; refine (HSY.out w4 (HB0.out.trans (HB4.out.mono HB0.out.size)) qa qb q1' q2').mono ?_; rw [HZ.out]; unfold syV; dsimp only; rintro e w5 ⟨rfl, hb5⟩; obtain ⟨w6, hw6⟩ : ∃ w6, w5.alloc (.cells #[.string z0, .bool z1, .int .i64 z2, .int .i64 z3, .int .i64 z4] 42) = w6 := ⟨_, rfl⟩; have hb6 : Below w4.heap.size w4 w6 := hw6 ▸ hb5.alloc hb5.size _; have hzb : Blk w6 w5.heap.size 42 #[.string z0, .bool z1, .int .i64 z2, .int .i64 z3, .int .i64 z4] := hw6 ▸ Blk.new _ _ _; have zz2 : w6.cell? ⟨w5.heap.size, 2, none⟩ = some (.int .i64 z2) := hzb.cell 2; have zz3 : w6.cell? ⟨w5.heap.size, 3, none⟩ = some (.int .i64 z3) := hzb.cell 3; have hsb6 := HSB4.out.below hb6 HSB4.out.lt; have x2 : w6.cell? ⟨w2.heap.size, 2, none⟩ = some (.int .i64 y2) := hsb6.cell 2; have x3 : w6.cell? ⟨w2.heap.size, 3, none⟩ = some (.int .i64 y3) := hsb6.cell 3; have htb6 := HTB4.out.below hb6 HTB4.out.lt; have v0 : w6.cell? ⟨w3.heap.size, 0, none⟩ = some (.int .i64 (qa : Int)) := htb6.cell 0; have v1 : w6.cell? ⟨w3.heap.size, 1, none⟩ = some (.int .i64 (qb : Int)) := htb6.cell 1; have hrb6 := HRB4.out.below hb6 HRB4.out.lt; have r60 : w6.cell? ⟨w.heap.size + 1, 0, none⟩ = some (.int .i64 0) := hrb6.cell 0; have r61 : w6.cell? ⟨w.heap.size + 1, 1, none⟩ = some (.int .i64 0) := hrb6.cell 1; have f60 := hrb6.frozen 0; have f61 := hrb6.frozen 1; have HB6 := Lib.hid (HB4.out.trans (hb6.mono HB4.out.size)); have HRB6 := Lib.hid hrb6; have hl6 := hrb6.lt; clear hb5 hb6 hzb hsb6 htb6 hrb6))
          have hfin : Blk ((w6.setCell ⟨w.heap.size + 1, 0, none⟩ (.int .i64 0)).setCell ⟨w.heap.size + 1, 1, none⟩ (.int .i64 0)) (w.heap.size + 1) 46 #[.int .i64 0, .int .i64 0] := (HRB6.out.stored 0 _).stored 1 _
          have q0 := hfin.cell 0
          have q1 := hfin.cell 1
          refine bodyPost_ret (v := bndE ((0, 0), 14)) (by simp [results, Try.results20, go_sem, bndE, plV, q0, q1]) rfl ⟨rfl, ?_⟩
          exact (((hb0w.trans (HB6.out.mono hb0w.size)).setCell (p := ⟨w.heap.size + 1, 0, none⟩) (by simp) _).setCell (p := ⟨w.heap.size + 1, 1, none⟩) (by simp) _)
      · obtain rfl := HCL.out (.inl k2)
        have k2' : (z2 != y2) = true := by simp [k2]
        clear k2
        go_enter Try.func20, Try.ntmps20
        have hb0w := HB0.out
        go_wp2_with (go_at_call 26; refine HC0.out.mono ?_; rintro e w2 ⟨rfl, hb2⟩; obtain ⟨w3, hw3⟩ : ∃ w3, w2.alloc (.cells #[.string y0, .bool y1, .int .i64 y2, .int .i64 y3, .int .i64 y4] 42) = w3 := ⟨_, rfl⟩; have hb3 : Below W0.heap.size W0 w3 := hw3 ▸ hb2.alloc hb2.size _; have hsb : Blk w3 w2.heap.size 42 #[.string y0, .bool y1, .int .i64 y2, .int .i64 y3, .int .i64 y4] := hw3 ▸ Blk.new _ _ _; have s4 : w3.cell? ⟨w2.heap.size, 4, none⟩ = some (.int .i64 y4) := hsb.cell 4; have s0 : w3.cell? ⟨w2.heap.size, 0, none⟩ = some (.string y0) := hsb.cell 0; have hlk := (HM.out.below (hb0w.trans (hb3.mono hb0w.size)) hml).look hnm; unfold plV at hlk; rw [HGA.out, HGB.out, HSM.out] at hlk; obtain ⟨w4, hw4⟩ : ∃ w4, w3.alloc (.cells #[.int .i64 (qa : Int), .int .i64 (qb : Int)] 46) = w4 := ⟨_, rfl⟩; have hb4 : Below W0.heap.size W0 w4 := hw4 ▸ hb3.alloc hb3.size _; have hrb4 := HRB.out.below hb4 HRB.out.lt; have r40 : w4.cell? ⟨w.heap.size + 1, 0, none⟩ = some (.int .i64 0) := hrb4.cell 0; have r41 : w4.cell? ⟨w.heap.size + 1, 1, none⟩ = some (.int .i64 0) := hrb4.cell 1; have f40 := hrb4.frozen 0; have f41 := hrb4.frozen 1; have HB4 := Lib.hid hb4; have HRB4 := Lib.hid hrb4; have hl4 := hrb4.lt; have hsb4 : Blk w4 w2.heap.size 42 #[.string y0, .bool y1, .int .i64 y2, .int .i64 y3, .int .i64 y4] := hw4 ▸ hsb.alloc _; have HSB4 := Lib.hid hsb4; have htb4 : Blk w4 w3.heap.size 46 #[.int .i64 (qa : Int), .int .i64 (qb : Int)] := hw4 ▸ Blk.new _ _ _; have HTB4 := Lib.hid htb4; have t40 : w4.cell? ⟨w3.heap.size, 0, none⟩ = some (.int .i64 (qa : Int)) := htb4.cell 0; have t41 : w4.cell? ⟨w3.heap.size, 1, none⟩ = some (.int .i64 (qb : Int)) := htb4.cell 1; clear hb2 hb3 hb4 hrb4 hsb hsb4 htb4; go_wp2_with (go_at_call 26; refine (HSY.out w4 (HB0.out.trans (HB4.out.mono HB0.out.size)) qa qb q1' q2').mono ?_; rw [HZ.out]; unfold syV; dsimp only; rintro e w5 ⟨rfl, hb5⟩; obtain ⟨w6, hw6⟩ : ∃ w6, w5.alloc (.cells #[.string z0, .bool z1, .int .i64 z2, .int .i64 z3, .int .i64 z4] 42) = w6 := ⟨_, rfl⟩; have hb6 : Below w4.heap.size w4 w6 := hw6 ▸ hb5.alloc hb5.size _; have hzb : Blk w6 w5.heap.size 42 #[.string z0, .bool z1, .int .i64 z2, .int .i64 z3, .int .i64 z4] := hw6 ▸ Blk.new _ _ _; have zz2 : w6.cell? ⟨w5.heap.size, 2, none⟩ = some (.int .i64 z2) := hzb.cell 2; have zz3 : w6.cell? ⟨w5.heap.size, 3, none⟩ = some (.int .i64 z3) := hzb.cell 3; have hsb6 := HSB4.out.below hb6 HSB4.out.lt; have x2 : w6.cell? ⟨w2.heap.size, 2, none⟩ = some (.int .i64 y2) := hsb6.cell 2; have x3 : w6.cell? ⟨w2.heap.size, 3, none⟩ = some (.int .i64 y3) := hsb6.cell 3; have htb6 := HTB4.out.below hb6 HTB4.out.lt; have v0 : w6.cell? ⟨w3.heap.size, 0, none⟩ = some (.int .i64 (qa : Int)) := htb6.cell 0; have v1 : w6.cell? ⟨w3.heap.size, 1, none⟩ = some (.int .i64 (qb : Int)) := htb6.cell 1; have hrb6 := HRB4.out.below hb6 HRB4.out.lt; have r60 : w6.cell? ⟨w.heap.size + 1, 0, none⟩ = some (.int .i64 0) := hrb6.cell 0; have r61 : w6.cell? ⟨w.heap.size + 1, 1, none⟩ = some (.int .i64 0) := hrb6.cell 1; have f60 := hrb6.frozen 0; have f61 := hrb6.frozen 1; have HB6 := Lib.hid (HB4.out.trans (hb6.mono HB4.out.size)); have HRB6 := Lib.hid hrb6; have hl6 := hrb6.lt; clear hb5 hb6 hzb hsb6 htb6 hrb6))
        have hfin : Blk ((w6.setCell ⟨w.heap.size + 1, 0, none⟩ (.int .i64 0)).setCell ⟨w.heap.size + 1, 1, none⟩ (.int .i64 0)) (w.heap.size + 1) 46 #[.int .i64 0, .int .i64 0] := (HRB6.out.stored 0 _).stored 1 _
        have q0 := hfin.cell 0
        have q1 := hfin.cell 1
        refine bodyPost_ret (v := bndE ((0, 0), 14)) (by simp [results, Try.results20, go_sem, bndE, plV, q0, q1]) rfl ⟨rfl, ?_⟩
        exact (((hb0w.trans (HB6.out.mono hb0w.size)).setCell (p := ⟨w.heap.size + 1, 0, none⟩) (by simp) _).setCell (p := ⟨w.heap.size + 1, 1, none⟩) (by simp) _)
  · have hd' : (y4 != -1) = true := by simp [hd]
    obtain rfl := HOWN.out hd
    clear hd
    unfold plV
    have hb0w := HB0.out
    go_enter Try.func20, Try.ntmps20
    go_wp2_with (go_at_call 26; refine HC0.out.mono ?_; rintro e w2 ⟨rfl, hb2⟩; obtain ⟨w3, hw3⟩ : ∃ w3, w2.alloc (.cells #[.string y0, .bool y1, .int .i64 y2, .int .i64 y3, .int .i64 y4] 42) = w3 := ⟨_, rfl⟩; have hb3 : Below W0.heap.size W0 w3 := hw3 ▸ hb2.alloc hb2.size _; have hsb : Blk w3 w2.heap.size 42 #[.string y0, .bool y1, .int .i64 y2, .int .i64 y3, .int .i64 y4] := hw3 ▸ Blk.new _ _ _; have s4 : w3.cell? ⟨w2.heap.size, 4, none⟩ = some (.int .i64 y4) := hsb.cell 4; have s0 : w3.cell? ⟨w2.heap.size, 0, none⟩ = some (.string y0) := hsb.cell 0; have hpb3 := HPB.out.below hb3 HPB.out.lt; have hrb3 := HRB.out.below hb3 HRB.out.lt; have p30 : w3.cell? ⟨w.heap.size, 0, none⟩ = some (.int .i64 (i : Int)) := hpb3.cell 0; have p31 : w3.cell? ⟨w.heap.size, 1, none⟩ = some (.int .i64 (k : Int)) := hpb3.cell 1; have r30 : w3.cell? ⟨w.heap.size + 1, 0, none⟩ = some (.int .i64 0) := hrb3.cell 0; have r31 : w3.cell? ⟨w.heap.size + 1, 1, none⟩ = some (.int .i64 0) := hrb3.cell 1; have f30 := hrb3.frozen 0; have f31 := hrb3.frozen 1; have HB3 := Lib.hid hb3; have HRB3 := Lib.hid hrb3; have hl3 := hrb3.lt; clear hb2 hb3 hpb3 hrb3 hsb)
    have hfin : Blk ((w3.setCell ⟨w.heap.size + 1, 0, none⟩ (.int .i64 (i : Int))).setCell ⟨w.heap.size + 1, 1, none⟩ (.int .i64 (k : Int))) (w.heap.size + 1) 46 #[.int .i64 (i : Int), .int .i64 (k : Int)] := (HRB3.out.stored 0 _).stored 1 _
    have q0 := hfin.cell 0
    have q1 := hfin.cell 1
    refine bodyPost_ret (v := bndE ((i, k), 0)) (by simp [results, Try.results20, go_sem, bndE, plV, q0, q1]) rfl ⟨rfl, ?_⟩
    exact (((hb0w.trans (HB3.out.mono hb0w.size)).setCell (p := ⟨w.heap.size + 1, 0, none⟩) (by simp) _).setCell (p := ⟨w.heap.size + 1, 1, none⟩) (by simp) _)
end Go.Proofs.Ytmabenffdpipmaa.By
