/-
  WALK of layer 23: the document's Bound.
-/
import Derived.Test.YtmabenffdpipmaaSg
namespace Go.Proofs.Ytmabenffdpipmaa.By
open Go.RowKit
open Mem Rf
set_option linter.unusedSimpArgs false
set_option linter.unusedVariables false

def boundE (r : Pl × Int) : Value := .tuple #[.int .i64 (r.1.1 : Int), .int .i64 (r.1.2 : Int), .int .i64 r.2]

theorem boundAt_own {L : List (List Sy)} {p : Pl} (h : (atS L p.1 p.2).2.2.2.2 ≠ -1) : boundAt L p = (p, 0) := by unfold boundAt; rw [if_pos h]
theorem boundAt_none {L : List (List Sy)} {p : Pl} (h : (atS L p.1 p.2).2.2.2.2 = -1) (hf : findV L (atS L p.1 p.2).1 = none) : boundAt L p = ((0, 0), 13) := by unfold boundAt; rw [if_neg (by simpa using h), hf]
theorem boundAt_class {L : List (List Sy)} {p q : Pl} (h : (atS L p.1 p.2).2.2.2.2 = -1) (hf : findV L (atS L p.1 p.2).1 = some q) (hc : (atS L q.1 q.2).2.2.1 ≠ (atS L p.1 p.2).2.2.1 ∨ (atS L q.1 q.2).2.2.2.1 ≠ (atS L p.1 p.2).2.2.2.1) : boundAt L p = ((0, 0), 14) := by
  unfold boundAt; rw [if_neg (by simpa using h), hf]; dsimp only; rw [if_pos hc]
theorem boundAt_to {L : List (List Sy)} {p q : Pl} (h : (atS L p.1 p.2).2.2.2.2 = -1) (hf : findV L (atS L p.1 p.2).1 = some q) (h1 : (atS L q.1 q.2).2.2.1 = (atS L p.1 p.2).2.2.1) (h2 : (atS L q.1 q.2).2.2.2.1 = (atS L p.1 p.2).2.2.2.1) : boundAt L p = (q, 0) := by
  unfold boundAt; rw [if_neg (by simpa using h), hf]; dsimp only; rw [if_neg (by simp [h1, h2])]

set_option maxRecDepth 100000 in
set_option maxHeartbeats 2000000 in
theorem rbound_in (A : Option Addr) (n c B : Nat) (L : List (List Sy)) (w : World) (h : Fs w B A n c L) (hB : B ≤ w.heap.size) (i k : Nat) (hi : i < n) (hk : k < (rowS L i).length) :
    Calls Try.prog 11 #[.slice A n c, .int .i64 (i : Int), .int .i64 (k : Int)] w fun e w' => e = .returned (boundE (boundAt L (i, k))) ∧ Below w.heap.size w w' := by
  have HF := Lib.hid h
  have hn := h.few
  have HR := Lib.hid (fun W (hb : Below w.heap.size w W) => h.below hB hb)
  have HB := Lib.hid hB
  obtain ⟨ad, oA, on, oc, fA, fn, fc, dA, dn, dc, rfl, hblk, c0, c1, c2, h1, h2, h3⟩ := h.row i hi
  rw [h1] at hk
  have HON := Lib.hid h1
  obtain ⟨ad2, rfl, hb2, s0, s1, s2, s3, s4⟩ := h3 k hk
  have hiI : (i : Int) < (n : Int) := by omega
  have hi0 : (0 : Int) ≤ (i : Int) := by omega
  have hkI : (k : Int) < (on : Int) := by omega
  have hk0 : (0 : Int) ≤ (k : Int) := by omega
  have hi1 : ¬ (i : Int) < 0 := by omega
  have hi2 : ¬ (n : Int) ≤ (i : Int) := by omega
  have hk1 : ¬ (k : Int) < 0 := by omega
  have hk2 : ¬ (on : Int) ≤ (k : Int) := by omega
  have HOWN := Lib.hid (fun e => boundAt_own (L := L) (p := (i, k)) e)
  have HNON := Lib.hid (fun e f => boundAt_none (L := L) (p := (i, k)) e f)
  have HCLA := Lib.hid (fun q e f g => boundAt_class (L := L) (p := (i, k)) (q := q) e f g)
  have HTO := Lib.hid (fun q e f g g2 => boundAt_to (L := L) (p := (i, k)) (q := q) e f g g2)
  dsimp only at HOWN HNON HCLA HTO
  obtain ⟨r, hr⟩ : ∃ r, boundAt L (i, k) = r := ⟨_, rfl⟩
  rw [hr] at HOWN HNON HCLA HTO ⊢
  clear hr h h1 h3 hB
  generalize atS L i k = s at *
  obtain ⟨y0, y1, y2, y3, y4⟩ := s
  dsimp only at s0 s1 s2 s3 s4 HOWN HNON HCLA HTO
  by_cases hd : y4 = -1
  · have hd' : (y4 != -1) = false := by simp [hd]
    have hsz := World.block_lt_of_cell? w _ s0
    obtain ⟨wa, hwa⟩ : ∃ wa, w.alloc (.cells #[.string y0, .bool y1, .int .i64 y2, .int .i64 y3, .int .i64 y4] 42) = wa := ⟨_, rfl⟩
    have HWA := Lib.hid (show Below w.heap.size w wa from hwa ▸ (Below.refl _ _).alloc (Nat.le_refl _) _)
    have hbk : Blk wa w.heap.size 42 #[.string y0, .bool y1, .int .i64 y2, .int .i64 y3, .int .i64 y4] := by rw [← hwa]; exact Blk.new _ _ _
    have e0 : wa.cell? ⟨w.heap.size, 0, none⟩ = some (.string y0) := hbk.cell 0
    have e4 : wa.cell? ⟨w.heap.size, 4, none⟩ = some (.int .i64 y4) := hbk.cell 4
    have HBK := Lib.hid hbk
    have HFI := Lib.hid (rfind_any (some ad) n c B L y0 wa (HR.out wa HWA.out) (Nat.le_trans HB.out HWA.out.size))
    have HD := Lib.hid hd
    have e2 : wa.cell? ⟨w.heap.size, 2, none⟩ = some (.int .i64 y2) := hbk.cell 2
    have e3 : wa.cell? ⟨w.heap.size, 3, none⟩ = some (.int .i64 y3) := hbk.cell 3
    have hlw := hbk.lt
    cases hf : findV L y0 with
    | none =>
      obtain rfl := HNON.out hd hf
      rw [hf] at HFI
      unfold findE at HFI
      dsimp only [Option.getD, Option.isSome] at HFI
      clear hd hf hbk
      go_enter Try.func11, Try.ntmps11
      go_wp2_with (go_at_call 9; refine HFI.out.mono ?_; rintro e w2 ⟨rfl, hb2⟩; have HB2 := Lib.hid hb2; clear hb2)
      refine bodyPost_ret (v := boundE ((0, 0), 13)) (by simp [results, Try.results11, go_sem, boundE]) rfl ⟨rfl, HWA.out.trans (HB2.out.mono HWA.out.size)⟩
    | some q =>
      obtain ⟨qa, qb⟩ := q
      obtain ⟨q1, q2, _, _⟩ := findV_some hf
      dsimp only at q1 q2
      have HCL := Lib.hid (fun f => HCLA.out (qa, qb) hd hf f)
      have HTT := Lib.hid (fun f g => HTO.out (qa, qb) hd hf f g)
      rw [hf] at HFI
      unfold findE at HFI
      dsimp only [Option.getD, Option.isSome] at HFI HCL HTT
      have q1' : qa < n := by have := HF.out.len; omega
      have HQ := Lib.hid (fun W hb => (HR.out W hb).row qa q1')
      have HQ2 := Lib.hid q2
      have hqI : (qa : Int) < (n : Int) := by omega
      have hq0 : (0 : Int) ≤ (qa : Int) := by omega
      have hqb0 : (0 : Int) ≤ (qb : Int) := by omega
      clear hd hf hbk q1 q2 HTO HCLA HOWN HNON
      obtain ⟨⟨z0, z1, z2, z3, z4⟩, hz⟩ : ∃ z, atS L qa qb = z := ⟨_, rfl⟩
      rw [hz] at HCL HTT
      dsimp only at HCL HTT
      have HZ := Lib.hid hz
      clear hz
      by_cases k2 : z2 = y2
      · by_cases k3 : z3 = y3
        · obtain rfl := HTT.out k2 k3
          have k2' : (z2 != y2) = false := by simp [k2]
          have k3' : (z3 != y3) = false := by simp [k3]
          clear k2 k3
          go_enter Try.func11, Try.ntmps11
          go_wp2_with (go_at_call 9; refine HFI.out.mono ?_; rintro e w2 ⟨rfl, hb2⟩; have d2 := (hb2.cell hlw).trans e2; have d3 := (hb2.cell hlw).trans e3; have hl2 := Nat.lt_of_lt_of_le hlw hb2.size; have HB2 := Lib.hid (HWA.out.trans (hb2.mono HWA.out.size)); clear hb2; obtain ⟨ax, zA, zn, zc, gA, gn, gc, kA, kn, kc, hax, ablk, a0, a1, a2, g1, g2, g3⟩ := HQ.out w2 HB2.out; injection hax with hax; subst hax; obtain ⟨ay, rfl, hyb, t0, t1, t2, t3, t4⟩ := g3 qb (by rw [← g1]; exact HQ2.out); have hqbI : (qb : Int) < (zn : Int) := (by have := HQ2.out; omega); clear g1 g2 g3 a1 a2; rw [HZ.out] at t0 t1 t2 t3 t4)
          refine bodyPost_ret (v := boundE ((qa, qb), 0)) (by simp [results, Try.results11, go_sem, boundE]) rfl ⟨rfl, HB2.out.alloc HB2.out.size _⟩
        · obtain rfl := HCL.out (.inr k3)
          have k2' : (z2 != y2) = false := by simp [k2]
          have k3' : (z3 != y3) = true := by simp [k3]
          clear k2 k3
          go_enter Try.func11, Try.ntmps11
          go_wp2_with (go_at_call 9; refine HFI.out.mono ?_; rintro e w2 ⟨rfl, hb2⟩; have d2 := (hb2.cell hlw).trans e2; have d3 := (hb2.cell hlw).trans e3; have hl2 := Nat.lt_of_lt_of_le hlw hb2.size; have HB2 := Lib.hid (HWA.out.trans (hb2.mono HWA.out.size)); clear hb2; obtain ⟨ax, zA, zn, zc, gA, gn, gc, kA, kn, kc, hax, ablk, a0, a1, a2, g1, g2, g3⟩ := HQ.out w2 HB2.out; injection hax with hax; subst hax; obtain ⟨ay, rfl, hyb, t0, t1, t2, t3, t4⟩ := g3 qb (by rw [← g1]; exact HQ2.out); have hqbI : (qb : Int) < (zn : Int) := (by have := HQ2.out; omega); clear g1 g2 g3 a1 a2; rw [HZ.out] at t0 t1 t2 t3 t4)
          refine bodyPost_ret (v := boundE ((0, 0), 14)) (by simp [results, Try.results11, go_sem, boundE]) rfl ⟨rfl, HB2.out.alloc HB2.out.size _⟩
      · obtain rfl := HCL.out (.inl k2)
        have k2' : (z2 != y2) = true := by simp [k2]
        clear k2
        go_enter Try.func11, Try.ntmps11
        go_wp2_with (go_at_call 9; refine HFI.out.mono ?_; rintro e w2 ⟨rfl, hb2⟩; have d2 := (hb2.cell hlw).trans e2; have d3 := (hb2.cell hlw).trans e3; have hl2 := Nat.lt_of_lt_of_le hlw hb2.size; have HB2 := Lib.hid (HWA.out.trans (hb2.mono HWA.out.size)); clear hb2; obtain ⟨ax, zA, zn, zc, gA, gn, gc, kA, kn, kc, hax, ablk, a0, a1, a2, g1, g2, g3⟩ := HQ.out w2 HB2.out; injection hax with hax; subst hax; obtain ⟨ay, rfl, hyb, t0, t1, t2, t3, t4⟩ := g3 qb (by rw [← g1]; exact HQ2.out); have hqbI : (qb : Int) < (zn : Int) := (by have := HQ2.out; omega); clear g1 g2 g3 a1 a2; rw [HZ.out] at t0 t1 t2 t3 t4)
        refine bodyPost_ret (v := boundE ((0, 0), 14)) (by simp [results, Try.results11, go_sem, boundE]) rfl ⟨rfl, HB2.out.alloc HB2.out.size _⟩
  · have hd' : (y4 != -1) = true := by simp [hd]
    obtain rfl := HOWN.out hd
    go_enter Try.func11, Try.ntmps11
    go_wp2_with fail
    refine bodyPost_ret (v := boundE ((i, k), 0)) (by simp [results, Try.results11, go_sem, boundE]) rfl ⟨rfl, (Below.refl _ _).alloc (Nat.le_refl _) _⟩

set_option maxRecDepth 100000 in
set_option maxHeartbeats 2000000 in
theorem rbound_any (A : Option Addr) (n c B : Nat) (L : List (List Sy)) (w : World) (h : Fs w B A n c L) (hB : B ≤ w.heap.size) (f s : Int) :
    Calls Try.prog 11 #[.slice A n c, .int .i64 f, .int .i64 s] w fun e w' => e = .returned (boundE (boundV L f s)) ∧ Below w.heap.size w w' := by
  have hbad : ¬ (0 ≤ f ∧ f < (L.length : Int) ∧ 0 ≤ s ∧ s < ((rowS L f.toNat).length : Int)) → boundV L f s = ((0, 0), 2) := fun h => by unfold boundV; rw [if_neg h]
  have hn := h.few
  by_cases f0 : 0 ≤ f
  · obtain ⟨i, rfl⟩ : ∃ i : Nat, f = (i : Int) := ⟨f.toNat, by omega⟩
    by_cases f1 : i < n
    · by_cases s0 : 0 ≤ s
      · obtain ⟨k, rfl⟩ : ∃ k : Nat, s = (k : Int) := ⟨s.toNat, by omega⟩
        by_cases s1 : k < (rowS L i).length
        · have : boundV L (i : Int) (k : Int) = boundAt L (i, k) := by
            unfold boundV
            rw [if_pos ⟨by omega, by rw [h.len]; omega, by omega, by rw [Int.toNat_natCast]; omega⟩, Int.toNat_natCast, Int.toNat_natCast]
          rw [this]
          exact rbound_in A n c B L w h hB i k f1 s1
        · rw [hbad fun h => s1 (by have := h.2.2.2; rw [Int.toNat_natCast] at this; omega)]
          obtain ⟨ad, oA, on, oc, fA, fn, fc, dA, dn, dc, rfl, hblk, c0, c1, c2, h1, h2, h3⟩ := h.row i f1
          rw [h1] at s1
          have hi2 : ¬ (i : Int) < 0 := by omega
          have hi3 : ¬ (n : Int) ≤ (i : Int) := by omega
          have hi4 : (i : Int) < (n : Int) := by omega
          have hk2 : ¬ (k : Int) < 0 := by omega
          have hk3 : (on : Int) ≤ (k : Int) := by omega
          clear h h1 h3 s1 hbad c1 c2
          go_enter Try.func11, Try.ntmps11
          go_wp2_with fail
          refine bodyPost_ret (v := boundE ((0, 0), 2)) (by simp [results, Try.results11, go_sem, boundE]) rfl ⟨rfl, Below.refl _ _⟩
      · rw [hbad fun h => s0 h.2.2.1]
        have hi2 : ¬ (i : Int) < 0 := by omega
        have hi3 : ¬ (n : Int) ≤ (i : Int) := by omega
        have hs2 : s < 0 := by omega
        clear h hbad
        go_enter Try.func11, Try.ntmps11
        go_wp2_with fail
        refine bodyPost_ret (v := boundE ((0, 0), 2)) (by simp [results, Try.results11, go_sem, boundE]) rfl ⟨rfl, Below.refl _ _⟩
    · rw [hbad fun hh => f1 (by have := hh.2.1; rw [h.len] at this; omega)]
      have hi2 : ¬ (i : Int) < 0 := by omega
      have hi3 : (n : Int) ≤ (i : Int) := by omega
      clear h hbad
      go_enter Try.func11, Try.ntmps11
      go_wp2_with fail
      refine bodyPost_ret (v := boundE ((0, 0), 2)) (by simp [results, Try.results11, go_sem, boundE]) rfl ⟨rfl, Below.refl _ _⟩
  · rw [hbad fun h => f0 h.1]
    have hf2 : f < 0 := by omega
    clear h hbad
    go_enter Try.func11, Try.ntmps11
    go_wp2_with fail
    refine bodyPost_ret (v := boundE ((0, 0), 2)) (by simp [results, Try.results11, go_sem, boundE]) rfl ⟨rfl, Below.refl _ _⟩
end Go.Proofs.Ytmabenffdpipmaa.By
