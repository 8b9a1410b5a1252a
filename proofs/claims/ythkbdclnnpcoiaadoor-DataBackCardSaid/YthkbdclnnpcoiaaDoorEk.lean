/-
  WALKS of layer 15: the first fault of a reference; Check.
-/
import Derived.Test.YthkbdclnnpcoiaaDoorEj
namespace Go.Proofs.YthkbdclnnpcoiaaDoor.By
open Go.RowKit
open Mem Gm Rf
set_option linter.unusedSimpArgs false
set_option linter.unusedVariables false

section
variable {W : World} {q : Nat} {kd : Int} {AW AR AS : Option Addr} {nW cW nR cR nS cS : Nat} {rs : List Rl} {ss : List Sy}
set_option maxRecDepth 100000 in
theorem fl5 (h : FL W q kd AW AR AS nW cW nR cR nS cS) (hr : RlL W AR nR cR rs) (hs : SyL W AS nS cS ss) (i : Nat) (hi : i < nR) (h4 : c4V nS rs i = false) : Calls Tryd.prog 54 #[.int .i64 (i : Int), .pointer (some ⟨q + 1, 0, none⟩), .pointer (some ⟨q + 2, 0, none⟩), .pointer (some ⟨q + 3, 0, none⟩)] W (FAns (c5V kd rs ss i) W) := by
  obtain ⟨m, hm, hmn⟩ : ∃ m : Nat, (rlAt rs i).2.1 = (m : Int) ∧ m < nS := by
    unfold c4V at h4
    simp at h4
    exact ⟨(rlAt rs i).2.1.toNat, by omega, by omega⟩
  have c0 : W.cell? ⟨q + 1, 0, none⟩ = some (.slice AS nS cS) := h.1.2.1.cell 0
  have c1 : W.cell? ⟨q + 2, 0, none⟩ = some (.slice AR nR cR) := h.1.2.2.cell 0
  have c2 : W.cell? ⟨q + 3, 0, none⟩ = some (.int .i64 (Si.clV kd)) := h.2.1.1.cell 0
  obtain ⟨ad, rfl, _, d0, d1, d2⟩ := hr.at_ hi
  obtain ⟨ay, rfl, _, s0, s1, s2, s3, s4⟩ := hs.at_ hmn
  have hiI : (i : Int) < (nR : Int) := by omega
  have hi0 : 0 ≤ (i : Int) := by omega
  have hmI : (m : Int) < (nS : Int) := by omega
  have hm0 : 0 ≤ (m : Int) := by omega
  have HV := Lib.hid (show c5V kd rs ss i = !isOfV (syAt ss m) (Si.clV kd) from by unfold c5V; rw [hm]; rfl)
  have HI := Lib.hid (fun W => isOf_any (syAt ss m) (Si.clV kd) W)
  rw [hm] at d1
  have HS := Lib.hid (show ∀ W', Below W.heap.size W W' → (W'.cell? ⟨q + 1, 0, none⟩ = some (.slice (some ay) nS cS) ∧ W'.cell? ⟨q + 2, 0, none⟩ = some (.slice (some ad) nR cR) ∧ W'.cell? ⟨q + 3, 0, none⟩ = some (.int .i64 (Si.clV kd)) ∧ W'.cell? ⟨(ad.add (i * 3)).block, (ad.add (i * 3)).off + 1, none⟩ = some (.int .i64 (m : Int))) ∧ W'.cell? (ay.add (m * 5)) = some (.string (syAt ss m).1) ∧ W'.cell? ⟨(ay.add (m * 5)).block, (ay.add (m * 5)).off + 1, none⟩ = some (.bool (syAt ss m).2.1) ∧ W'.cell? ⟨(ay.add (m * 5)).block, (ay.add (m * 5)).off + 2, none⟩ = some (.int .i64 (syAt ss m).2.2.1) ∧ W'.cell? ⟨(ay.add (m * 5)).block, (ay.add (m * 5)).off + 3, none⟩ = some (.int .i64 (syAt ss m).2.2.2.1) ∧ W'.cell? ⟨(ay.add (m * 5)).block, (ay.add (m * 5)).off + 4, none⟩ = some (.int .i64 (syAt ss m).2.2.2.2) from fun W' hb =>
    have k : ∀ (p : Addr) (u : Value), W.cell? p = some u → W'.cell? p = some u := fun p u hc => (hb.cell (World.block_lt_of_cell? W _ hc)).trans hc
    ⟨⟨k _ _ c0, k _ _ c1, k _ _ c2, k _ _ d1⟩, k _ _ s0, k _ _ s1, k _ _ s2, k _ _ s3, k _ _ s4⟩)
  obtain ⟨bl, hbl⟩ : ∃ b, isOfV (syAt ss m) (Si.clV kd) = b := ⟨_, rfl⟩
  rw [hbl] at HV HI
  generalize Si.clV kd = cl at HI HS c2
  generalize syAt ss m = x at HI HS s0 s1 s2 s3 s4
  have hHeld := HS.out W (Below.refl _ _)
  clear h hr hs hi h4 hm hmn hbl d0 d2
  go_enter Tryd.func54, Tryd.ntmps54
  go_wp2_with fail
  refine wp_region_noPanic ?_
  refine wp_region_held_drew (S := fun W' => (W'.cell? ⟨q + 1, 0, none⟩ = some (.slice (some ay) nS cS) ∧ W'.cell? ⟨q + 2, 0, none⟩ = some (.slice (some ad) nR cR) ∧ W'.cell? ⟨q + 3, 0, none⟩ = some (.int .i64 cl) ∧ W'.cell? ⟨(ad.add (i * 3)).block, (ad.add (i * 3)).off + 1, none⟩ = some (.int .i64 (m : Int))) ∧ W'.cell? (ay.add (m * 5)) = some (.string x.1) ∧ W'.cell? ⟨(ay.add (m * 5)).block, (ay.add (m * 5)).off + 1, none⟩ = some (.bool x.2.1) ∧ W'.cell? ⟨(ay.add (m * 5)).block, (ay.add (m * 5)).off + 2, none⟩ = some (.int .i64 x.2.2.1) ∧ W'.cell? ⟨(ay.add (m * 5)).block, (ay.add (m * 5)).off + 3, none⟩ = some (.int .i64 x.2.2.2.1) ∧ W'.cell? ⟨(ay.add (m * 5)).block, (ay.add (m * 5)).off + 4, none⟩ = some (.int .i64 x.2.2.2.2)) (by kernel_rfl) (hHeld) (fun hHeld => ?_)
  refine wpAnyH_take (i := 0) rfl (by kernel_rfl) (by kernel_rfl) (by kernel_rfl) (fun _ _ _ h => h) (Or.inl ⟨by rfl, by intro W hSW; (try dsimp only at hSW); go_simp; try (with_reducible rfl)⟩) hHeld ?_
  try simp only [Act.put, List.getElem_toArray, List.getElem_cons_zero, List.getElem_cons_succ, List.setIfInBounds_toArray, List.set_cons_zero, List.set_cons_succ]
  refine wpAnyH_take (i := 1) rfl (by kernel_rfl) (by kernel_rfl) (by kernel_rfl) (fun _ _ _ h => h) (Or.inl ⟨by rfl, by intro W hSW; (try dsimp only at hSW); go_simp; try (with_reducible rfl)⟩) hHeld ?_
  try simp only [Act.put, List.getElem_toArray, List.getElem_cons_zero, List.getElem_cons_succ, List.setIfInBounds_toArray, List.set_cons_zero, List.set_cons_succ]
  refine wpAnyH_take (i := 2) rfl (by kernel_rfl) (by kernel_rfl) (by kernel_rfl) (fun _ _ _ h => h) (Or.inl ⟨by rfl, by intro W hSW; (try dsimp only at hSW); go_simp; try (with_reducible rfl)⟩) hHeld ?_
  try simp only [Act.put, List.getElem_toArray, List.getElem_cons_zero, List.getElem_cons_succ, List.setIfInBounds_toArray, List.set_cons_zero, List.set_cons_succ]
  refine wpAnyH_take (i := 3) rfl (by kernel_rfl) (by kernel_rfl) (by kernel_rfl) (fun _ _ _ h => h) (Or.inl ⟨by rfl, by intro W hSW; (try dsimp only at hSW); go_simp; try (with_reducible rfl)⟩) hHeld ?_
  try simp only [Act.put, List.getElem_toArray, List.getElem_cons_zero, List.getElem_cons_succ, List.setIfInBounds_toArray, List.set_cons_zero, List.set_cons_succ]
  refine wpAnyH_take (i := 4) rfl (by kernel_rfl) (by kernel_rfl) (by kernel_rfl) (fun _ _ _ h => h) (Or.inl ⟨by rfl, by intro W hSW; (try dsimp only at hSW); go_simp; try (with_reducible rfl)⟩) hHeld ?_
  try simp only [Act.put, List.getElem_toArray, List.getElem_cons_zero, List.getElem_cons_succ, List.setIfInBounds_toArray, List.set_cons_zero, List.set_cons_succ]
  refine wpAnyH_take (i := 5) rfl (by kernel_rfl) (by kernel_rfl) (by kernel_rfl) (fun _ _ _ h => h) (Or.inl ⟨by rfl, by intro W hSW; (try dsimp only at hSW); go_simp; try (with_reducible rfl)⟩) hHeld ?_
  try simp only [Act.put, List.getElem_toArray, List.getElem_cons_zero, List.getElem_cons_succ, List.setIfInBounds_toArray, List.set_cons_zero, List.set_cons_succ]
  refine wpAnyH_take (i := 6) rfl (by kernel_rfl) (by kernel_rfl) (by kernel_rfl) (fun _ _ _ h => h) (Or.inl ⟨by rfl, by intro W hSW; (try dsimp only at hSW); go_simp; try (with_reducible rfl)⟩) hHeld ?_
  try simp only [Act.put, List.getElem_toArray, List.getElem_cons_zero, List.getElem_cons_succ, List.setIfInBounds_toArray, List.set_cons_zero, List.set_cons_succ]
  refine wpAnyH_take (i := 7) rfl (by kernel_rfl) (by kernel_rfl) (by kernel_rfl) (fun _ _ _ h => h) (Or.inl ⟨by rfl, by intro W hSW; (try dsimp only at hSW); go_simp; try (with_reducible rfl)⟩) hHeld ?_
  try simp only [Act.put, List.getElem_toArray, List.getElem_cons_zero, List.getElem_cons_succ, List.setIfInBounds_toArray, List.set_cons_zero, List.set_cons_succ]
  refine wpAnyH_take (i := 8) rfl (by kernel_rfl) (by kernel_rfl) (by kernel_rfl) (fun _ _ _ h => h) (Or.inl ⟨by rfl, by intro W hSW; (try dsimp only at hSW); go_simp; try (with_reducible rfl)⟩) hHeld ?_
  try simp only [Act.put, List.getElem_toArray, List.getElem_cons_zero, List.getElem_cons_succ, List.setIfInBounds_toArray, List.set_cons_zero, List.set_cons_succ]
  refine wpAnyH_ready (rs := [9]) (by kernel_rfl) (by simp) ?_
  refine AllReadyH.cons rfl (fun K hK => ?_) AllReadyH.nil
  go_simp
  refine (HI.out _).mono ?_
  rintro e w9 ⟨rfl, b9⟩
  have HB2 := Lib.hid (to_ (drew_below W) b9)
  clear b9
  try go_wp2_with fail
  refine hK.out _ _ (HS.out _ HB2.out) ?_
  clear hK K hHeld
  intro hHeld
  try simp only [Act.put, List.getElem_toArray, List.getElem_cons_zero, List.getElem_cons_succ, List.setIfInBounds_toArray, List.set_cons_zero, List.set_cons_succ]
  refine wpAnyH_take (i := 10) rfl (by kernel_rfl) (by kernel_rfl) (by kernel_rfl) (fun _ _ _ h => h) (Or.inl ⟨by rfl, by intro W hSW; (try dsimp only at hSW); go_simp; try (with_reducible rfl)⟩) hHeld ?_
  try simp only [Act.put, List.getElem_toArray, List.getElem_cons_zero, List.getElem_cons_succ, List.setIfInBounds_toArray, List.set_cons_zero, List.set_cons_succ]
  refine wpAnyH_take (i := 11) rfl (by kernel_rfl) (by kernel_rfl) (by kernel_rfl) (fun _ _ _ h => h) (Or.inl ⟨by rfl, by intro W hSW; (try dsimp only at hSW); go_simp; try (with_reducible rfl)⟩) hHeld ?_
  try simp only [Act.put, List.getElem_toArray, List.getElem_cons_zero, List.getElem_cons_succ, List.setIfInBounds_toArray, List.set_cons_zero, List.set_cons_succ]
  refine wpAnyH_done (by kernel_rfl) ?_ _
  refine NoPanic.normal ?_
  go_wp2_with fail
  go_ret
  exact ⟨by rw [HV.out]; rfl, HB2.out⟩

def fE (kd : Int) (nW nS : Nat) (rs : List Rl) (ss : List Sy) (i : Nat) : Int := if c1V kd || c2V nW rs i || c3V rs i || c4V nS rs i then 11 else if c5V kd rs ss i then 8 else 0
def CkD (x : Int) (w : World) (e : Ending) (w' : World) : Prop := e = .returned (.int .i64 x) ∧ Below w.heap.size w w'

set_option maxRecDepth 100000 in
set_option maxHeartbeats 2000000 in
theorem faultOf_any (h : FL W q kd AW AR AS nW cW nR cR nS cS) (hr : RlL W AR nR cR rs) (hs : SyL W AS nS cS ss) (i : Nat) (hi : i < nR) (hn : nR ≤ 1000000) :
    Calls Tryd.prog 26 #[.int .i64 (i : Int), .slice (some ⟨q + 5, 0, none⟩) 5 5] W (CkD (fE kd nW nS rs ss i) W) := by
  have HF := Lib.hid h
  have H1 := Lib.hid (fun W' (hb : Below W.heap.size W W') => fl1 (h.on hb) i)
  have H2 := Lib.hid (fun W' (hb : Below W.heap.size W W') => fl2 (h.on hb) (hr.on hb) i hi)
  have H3 := Lib.hid (fun W' (hb : Below W.heap.size W W') => fl3 (h.on hb) (hr.on hb) i hi hn)
  have H4 := Lib.hid (fun W' (hb : Below W.heap.size W W') => fl4 (h.on hb) (hr.on hb) i hi)
  have H5 := Lib.hid (fun h4 W' (hb : Below W.heap.size W W') => fl5 (h.on hb) (hr.on hb) (hs.on hb) i hi h4)
  obtain ⟨b1, hb1⟩ : ∃ b, c1V kd = b := ⟨_, rfl⟩
  obtain ⟨b2, hb2⟩ : ∃ b, c2V nW rs i = b := ⟨_, rfl⟩
  obtain ⟨b3, hb3⟩ : ∃ b, c3V rs i = b := ⟨_, rfl⟩
  obtain ⟨b4, hb4⟩ : ∃ b, c4V nS rs i = b := ⟨_, rfl⟩
  obtain ⟨b5, hb5⟩ : ∃ b, c5V kd rs ss i = b := ⟨_, rfl⟩
  have HV := Lib.hid (show fE kd nW nS rs ss i = if b1 || b2 || b3 || b4 then 11 else if b5 then 8 else 0 from by unfold fE; rw [hb1, hb2, hb3, hb4, hb5])
  rw [hb1] at H1
  rw [hb2] at H2
  rw [hb3] at H3
  rw [hb4] at H4
  rw [hb5] at H5
  have H5' := Lib.hid (fun (e : b4 = false) W' hb => H5.out (hb4.trans e) W' hb)
  clear h hr hs hi hn hb1 hb2 hb3 hb4 hb5 H5
  go_enter Tryd.func26, Tryd.ntmps26
  go_wp2_with fail
  go_loopw [9] (fun c wr => ∃ k : Nat, k ≤ 5 ∧ c = .int .i64 (k : Int) ∧ Below W.heap.size W wr ∧ Hid ((1 ≤ k → b1 = false) ∧ (2 ≤ k → b2 = false) ∧ (3 ≤ k → b3 = false) ∧ (4 ≤ k → b4 = false) ∧ (5 ≤ k → b5 = false))) (fun c _ => 5 - (intOf c).toNat)
  case atStart => exact ⟨0, Nat.zero_le _, rfl, Below.refl _ _, Lib.hid ⟨by omega, by omega, by omega, by omega, by omega⟩⟩
  case round =>
    obtain ⟨k, hk, rfl, hbel, HC⟩ := hrel
    have HBE := Lib.hid hbel
    have hB := (HF.out.on hbel).2.2
    have hcs : k = 5 ∨ k = 0 ∨ k = 1 ∨ k = 2 ∨ k = 3 ∨ k = 4 := by omega
    clear hbel
    rcases hcs with rfl | rfl | rfl | rfl | rfl | rfl
    · have HR := Lib.hid (show fE kd nW nS rs ss i = 0 from by
        have h9 := HC.out
        rw [HV.out, h9.1 (by omega), h9.2.1 (by omega), h9.2.2.1 (by omega), h9.2.2.2.1 (by omega), h9.2.2.2.2 (by omega)]; rfl)
      clear hB
      go_wp2_with fail
      go_ret
      exact ⟨by rw [HR.out]; rfl, HBE.out⟩
    · have c0 : wr.cell? ⟨q + 5, 0, none⟩ = some (.int .i64 11) := hB.cell 0
      have c1 : wr.cell? ⟨q + 5, 1, none⟩ = some (.func (.func 49) #[] #[.pointer (some ⟨q + 4, 0, none⟩)]) := hB.cell 1
      clear hB
      have HAL := Lib.hid (to_ HBE.out (alloc_ wr (.cells #[.int .i64 11, .func (.func 49) #[] #[.pointer (some ⟨q + 4, 0, none⟩)]] 87)))
      obtain ⟨w1, hw1⟩ : ∃ w1, wr.alloc (.cells #[.int .i64 11, .func (.func 49) #[] #[.pointer (some ⟨q + 4, 0, none⟩)]] 87) = w1 := ⟨_, rfl⟩
      have z0 : w1.cell? ⟨wr.heap.size, 0, none⟩ = some (.int .i64 11) := by rw [← hw1]; exact (Blk.new wr _ _).cell 0
      have z1 : w1.cell? ⟨wr.heap.size, 1, none⟩ = some (.func (.func 49) #[] #[.pointer (some ⟨q + 4, 0, none⟩)]) := by rw [← hw1]; exact (Blk.new wr _ _).cell 1
      have hzl : wr.heap.size < w1.heap.size := by rw [← hw1]; simp
      rw [hw1] at HAL
      have HCL := Lib.hid (H1.out w1 HAL.out)
      go_wp2_with fail
      clear hw1
      refine HCL.out.mono ?_
      rintro e w9 ⟨rfl, b9⟩
      have HB9 := Lib.hid (to_ HAL.out b9)
      have y0 : w9.cell? ⟨wr.heap.size, 0, none⟩ = some (.int .i64 11) := (b9.cell hzl).trans z0
      clear b9 z0 z1 c0 c1
      cases b1 with
      | true =>
        have HR := Lib.hid (show fE kd nW nS rs ss i = 11 from by rw [HV.out]; simp)
        go_wp2_with fail
        go_ret
        exact ⟨by rw [HR.out]; rfl, HB9.out⟩
      | false =>
        go_wp2_with fail
        go_roundw
        case rel => exact ⟨1, by omega, by go_num, HB9.out, Lib.hid ⟨fun _ => (by first | rfl | trivial), by omega, by omega, by omega, by omega⟩⟩
        case measure => simp [intOf]
    · have c0 : wr.cell? ⟨q + 5, 2, none⟩ = some (.int .i64 11) := hB.cell 2
      have c1 : wr.cell? ⟨q + 5, 3, none⟩ = some (.func (.func 50) #[] #[.pointer (some ⟨q + 2, 0, none⟩), .pointer (some ⟨q, 0, none⟩)]) := hB.cell 3
      clear hB
      have HAL := Lib.hid (to_ HBE.out (alloc_ wr (.cells #[.int .i64 11, .func (.func 50) #[] #[.pointer (some ⟨q + 2, 0, none⟩), .pointer (some ⟨q, 0, none⟩)]] 87)))
      obtain ⟨w1, hw1⟩ : ∃ w1, wr.alloc (.cells #[.int .i64 11, .func (.func 50) #[] #[.pointer (some ⟨q + 2, 0, none⟩), .pointer (some ⟨q, 0, none⟩)]] 87) = w1 := ⟨_, rfl⟩
      have z0 : w1.cell? ⟨wr.heap.size, 0, none⟩ = some (.int .i64 11) := by rw [← hw1]; exact (Blk.new wr _ _).cell 0
      have z1 : w1.cell? ⟨wr.heap.size, 1, none⟩ = some (.func (.func 50) #[] #[.pointer (some ⟨q + 2, 0, none⟩), .pointer (some ⟨q, 0, none⟩)]) := by rw [← hw1]; exact (Blk.new wr _ _).cell 1
      have hzl : wr.heap.size < w1.heap.size := by rw [← hw1]; simp
      rw [hw1] at HAL
      have HCL := Lib.hid (H2.out w1 HAL.out)
      go_wp2_with fail
      clear hw1
      refine HCL.out.mono ?_
      rintro e w9 ⟨rfl, b9⟩
      have HB9 := Lib.hid (to_ HAL.out b9)
      have y0 : w9.cell? ⟨wr.heap.size, 0, none⟩ = some (.int .i64 11) := (b9.cell hzl).trans z0
      clear b9 z0 z1 c0 c1
      cases b2 with
      | true =>
        have HR := Lib.hid (show fE kd nW nS rs ss i = 11 from by rw [HV.out, HC.out.1 (by omega)]; simp)
        go_wp2_with fail
        go_ret
        exact ⟨by rw [HR.out]; rfl, HB9.out⟩
      | false =>
        go_wp2_with fail
        go_roundw
        case rel => exact ⟨2, by omega, by go_num, HB9.out, Lib.hid ⟨fun _ => HC.out.1 (by omega), fun _ => (by first | rfl | trivial), by omega, by omega, by omega⟩⟩
        case measure => simp [intOf]
    · have c0 : wr.cell? ⟨q + 5, 4, none⟩ = some (.int .i64 11) := hB.cell 4
      have c1 : wr.cell? ⟨q + 5, 5, none⟩ = some (.func (.func 52) #[] #[.pointer (some ⟨q + 2, 0, none⟩)]) := hB.cell 5
      clear hB
      have HAL := Lib.hid (to_ HBE.out (alloc_ wr (.cells #[.int .i64 11, .func (.func 52) #[] #[.pointer (some ⟨q + 2, 0, none⟩)]] 87)))
      obtain ⟨w1, hw1⟩ : ∃ w1, wr.alloc (.cells #[.int .i64 11, .func (.func 52) #[] #[.pointer (some ⟨q + 2, 0, none⟩)]] 87) = w1 := ⟨_, rfl⟩
      have z0 : w1.cell? ⟨wr.heap.size, 0, none⟩ = some (.int .i64 11) := by rw [← hw1]; exact (Blk.new wr _ _).cell 0
      have z1 : w1.cell? ⟨wr.heap.size, 1, none⟩ = some (.func (.func 52) #[] #[.pointer (some ⟨q + 2, 0, none⟩)]) := by rw [← hw1]; exact (Blk.new wr _ _).cell 1
      have hzl : wr.heap.size < w1.heap.size := by rw [← hw1]; simp
      rw [hw1] at HAL
      have HCL := Lib.hid (H3.out w1 HAL.out)
      go_wp2_with fail
      clear hw1
      refine HCL.out.mono ?_
      rintro e w9 ⟨rfl, b9⟩
      have HB9 := Lib.hid (to_ HAL.out b9)
      have y0 : w9.cell? ⟨wr.heap.size, 0, none⟩ = some (.int .i64 11) := (b9.cell hzl).trans z0
      clear b9 z0 z1 c0 c1
      cases b3 with
      | true =>
        have HR := Lib.hid (show fE kd nW nS rs ss i = 11 from by rw [HV.out, HC.out.1 (by omega), HC.out.2.1 (by omega)]; simp)
        go_wp2_with fail
        go_ret
        exact ⟨by rw [HR.out]; rfl, HB9.out⟩
      | false =>
        go_wp2_with fail
        go_roundw
        case rel => exact ⟨3, by omega, by go_num, HB9.out, Lib.hid ⟨fun _ => HC.out.1 (by omega), fun _ => HC.out.2.1 (by omega), fun _ => (by first | rfl | trivial), by omega, by omega⟩⟩
        case measure => simp [intOf]
    · have c0 : wr.cell? ⟨q + 5, 6, none⟩ = some (.int .i64 11) := hB.cell 6
      have c1 : wr.cell? ⟨q + 5, 7, none⟩ = some (.func (.func 53) #[] #[.pointer (some ⟨q + 2, 0, none⟩), .pointer (some ⟨q + 1, 0, none⟩)]) := hB.cell 7
      clear hB
      have HAL := Lib.hid (to_ HBE.out (alloc_ wr (.cells #[.int .i64 11, .func (.func 53) #[] #[.pointer (some ⟨q + 2, 0, none⟩), .pointer (some ⟨q + 1, 0, none⟩)]] 87)))
      obtain ⟨w1, hw1⟩ : ∃ w1, wr.alloc (.cells #[.int .i64 11, .func (.func 53) #[] #[.pointer (some ⟨q + 2, 0, none⟩), .pointer (some ⟨q + 1, 0, none⟩)]] 87) = w1 := ⟨_, rfl⟩
      have z0 : w1.cell? ⟨wr.heap.size, 0, none⟩ = some (.int .i64 11) := by rw [← hw1]; exact (Blk.new wr _ _).cell 0
      have z1 : w1.cell? ⟨wr.heap.size, 1, none⟩ = some (.func (.func 53) #[] #[.pointer (some ⟨q + 2, 0, none⟩), .pointer (some ⟨q + 1, 0, none⟩)]) := by rw [← hw1]; exact (Blk.new wr _ _).cell 1
      have hzl : wr.heap.size < w1.heap.size := by rw [← hw1]; simp
      rw [hw1] at HAL
      have HCL := Lib.hid (H4.out w1 HAL.out)
      go_wp2_with fail
      clear hw1
      refine HCL.out.mono ?_
      rintro e w9 ⟨rfl, b9⟩
      have HB9 := Lib.hid (to_ HAL.out b9)
      have y0 : w9.cell? ⟨wr.heap.size, 0, none⟩ = some (.int .i64 11) := (b9.cell hzl).trans z0
      clear b9 z0 z1 c0 c1
      cases b4 with
      | true =>
        have HR := Lib.hid (show fE kd nW nS rs ss i = 11 from by rw [HV.out, HC.out.1 (by omega), HC.out.2.1 (by omega), HC.out.2.2.1 (by omega)]; simp)
        go_wp2_with fail
        go_ret
        exact ⟨by rw [HR.out]; rfl, HB9.out⟩
      | false =>
        go_wp2_with fail
        go_roundw
        case rel => exact ⟨4, by omega, by go_num, HB9.out, Lib.hid ⟨fun _ => HC.out.1 (by omega), fun _ => HC.out.2.1 (by omega), fun _ => HC.out.2.2.1 (by omega), fun _ => (by first | rfl | trivial), by omega⟩⟩
        case measure => simp [intOf]
    · have c0 : wr.cell? ⟨q + 5, 8, none⟩ = some (.int .i64 8) := hB.cell 8
      have c1 : wr.cell? ⟨q + 5, 9, none⟩ = some (.func (.func 54) #[] #[.pointer (some ⟨q + 1, 0, none⟩), .pointer (some ⟨q + 2, 0, none⟩), .pointer (some ⟨q + 3, 0, none⟩)]) := hB.cell 9
      clear hB
      have HAL := Lib.hid (to_ HBE.out (alloc_ wr (.cells #[.int .i64 8, .func (.func 54) #[] #[.pointer (some ⟨q + 1, 0, none⟩), .pointer (some ⟨q + 2, 0, none⟩), .pointer (some ⟨q + 3, 0, none⟩)]] 87)))
      obtain ⟨w1, hw1⟩ : ∃ w1, wr.alloc (.cells #[.int .i64 8, .func (.func 54) #[] #[.pointer (some ⟨q + 1, 0, none⟩), .pointer (some ⟨q + 2, 0, none⟩), .pointer (some ⟨q + 3, 0, none⟩)]] 87) = w1 := ⟨_, rfl⟩
      have z0 : w1.cell? ⟨wr.heap.size, 0, none⟩ = some (.int .i64 8) := by rw [← hw1]; exact (Blk.new wr _ _).cell 0
      have z1 : w1.cell? ⟨wr.heap.size, 1, none⟩ = some (.func (.func 54) #[] #[.pointer (some ⟨q + 1, 0, none⟩), .pointer (some ⟨q + 2, 0, none⟩), .pointer (some ⟨q + 3, 0, none⟩)]) := by rw [← hw1]; exact (Blk.new wr _ _).cell 1
      have hzl : wr.heap.size < w1.heap.size := by rw [← hw1]; simp
      rw [hw1] at HAL
      have HCL := Lib.hid (H5'.out (HC.out.2.2.2.1 (by omega)) w1 HAL.out)
      go_wp2_with fail
      clear hw1
      refine HCL.out.mono ?_
      rintro e w9 ⟨rfl, b9⟩
      have HB9 := Lib.hid (to_ HAL.out b9)
      have y0 : w9.cell? ⟨wr.heap.size, 0, none⟩ = some (.int .i64 8) := (b9.cell hzl).trans z0
      clear b9 z0 z1 c0 c1
      cases b5 with
      | true =>
        have HR := Lib.hid (show fE kd nW nS rs ss i = 8 from by rw [HV.out, HC.out.1 (by omega), HC.out.2.1 (by omega), HC.out.2.2.1 (by omega), HC.out.2.2.2.1 (by omega)]; simp)
        go_wp2_with fail
        go_ret
        exact ⟨by rw [HR.out]; rfl, HB9.out⟩
      | false =>
        go_wp2_with fail
        go_roundw
        case rel => exact ⟨5, by omega, by go_num, HB9.out, Lib.hid ⟨fun _ => HC.out.1 (by omega), fun _ => HC.out.2.1 (by omega), fun _ => HC.out.2.2.1 (by omega), fun _ => HC.out.2.2.2.1 (by omega), fun _ => (by first | rfl | trivial)⟩⟩
        case measure => simp [intOf]
end
end Go.Proofs.YthkbdclnnpcoiaaDoor.By
