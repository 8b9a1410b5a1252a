/-
  WALKS of layer 15: what may be wrong of references; Check.
-/
import Derived.Test.YthkbdclnnpcoiaaDoorEa
import Derived.Test.YthkbdclnnpcoiaaDoorSx
namespace Go.Proofs.YthkbdclnnpcoiaaDoor.By
open Go.RowKit
open Mem Gm Rf
set_option linter.unusedSimpArgs false
set_option linter.unusedVariables false

theorem placeD_any (p n : Int) (w : World) : Calls Tryd.prog 51 #[.int .i64 p, .int .i64 n] w fun e w' => e = .returned (.bool (decide (0 ≤ p) && decide (p < n))) ∧ w = w' := by
  obtain ⟨bl, hbl⟩ : ∃ bl, decide (p < n) = bl := ⟨_, rfl⟩
  by_cases h : 0 ≤ p
  · have h1 : decide (0 ≤ p) = true := decide_eq_true h
    rw [h1, hbl]
    go_enter Tryd.func51, Tryd.ntmps51
    go_wp2_with fail
    go_ret
    exact ⟨by simp, rfl⟩
  · have h1 : decide (0 ≤ p) = false := decide_eq_false h
    rw [h1, hbl]
    clear h
    go_enter Tryd.func51, Tryd.ntmps51
    go_wp2_with fail
    go_ret
    exact ⟨by simp, rfl⟩
def isOfV (x : Sy) (cl : Int) : Bool := x.2.2.1 == 1 && x.2.2.2.1 == cl
theorem isOf_any (x : Sy) (cl : Int) (w : World) : Calls Tryd.prog 55 #[.agg #[.string x.1, .bool x.2.1, .int .i64 x.2.2.1, .int .i64 x.2.2.2.1, .int .i64 x.2.2.2.2], .int .i64 cl] w fun e w' => e = .returned (.bool (isOfV x cl)) ∧ Below w.heap.size w w' := by
  obtain ⟨x0, x1, x2, x3, x4⟩ := x
  unfold isOfV
  obtain ⟨b1, hb1⟩ : ∃ b, (x2 == 1) = b := ⟨_, rfl⟩
  obtain ⟨b2, hb2⟩ : ∃ b, (x3 == cl) = b := ⟨_, rfl⟩
  simp only [hb1, hb2]
  cases b1
  all_goals
    go_enter Tryd.func55, Tryd.ntmps55
    go_wp2_with fail
    go_ret
    exact ⟨by simp, alloc_ _ _⟩

/-- What faults lays: the data, the symbols, the references, the class, whether there is one; the list. -/
def FL (W : World) (q : Nat) (kd : Int) (AW AR AS : Option Addr) (nW cW nR cR nS cS : Nat) : Prop :=
  (Blk W q 25 #[.int .i64 kd, .slice AW nW cW, .slice AR nR cR] ∧ Blk W (q + 1) 26 #[.slice AS nS cS] ∧ Blk W (q + 2) 23 #[.slice AR nR cR]) ∧
  (Blk W (q + 3) 3 #[.int .i64 (Si.clV kd)] ∧ Blk W (q + 4) 4 #[.bool (Si.clB kd)]) ∧
  Blk W (q + 5) 87 #[.int .i64 11, .func (.func 49) #[] #[.pointer (some ⟨q + 4, 0, none⟩)], .int .i64 11, .func (.func 50) #[] #[.pointer (some ⟨q + 2, 0, none⟩), .pointer (some ⟨q, 0, none⟩)], .int .i64 11, .func (.func 52) #[] #[.pointer (some ⟨q + 2, 0, none⟩)], .int .i64 11, .func (.func 53) #[] #[.pointer (some ⟨q + 2, 0, none⟩), .pointer (some ⟨q + 1, 0, none⟩)], .int .i64 8, .func (.func 54) #[] #[.pointer (some ⟨q + 1, 0, none⟩), .pointer (some ⟨q + 2, 0, none⟩), .pointer (some ⟨q + 3, 0, none⟩)]]
theorem FL.on {W W' : World} {q : Nat} {kd : Int} {AW AR AS : Option Addr} {nW cW nR cR nS cS : Nat} (h : FL W q kd AW AR AS nW cW nR cR nS cS) (hb : Below W.heap.size W W') : FL W' q kd AW AR AS nW cW nR cR nS cS :=
  ⟨⟨h.1.1.below hb h.1.1.lt, h.1.2.1.below hb h.1.2.1.lt, h.1.2.2.below hb h.1.2.2.lt⟩, ⟨h.2.1.1.below hb h.2.1.1.lt, h.2.1.2.below hb h.2.1.2.lt⟩, h.2.2.below hb h.2.2.lt⟩

set_option maxRecDepth 100000 in
set_option maxHeartbeats 1000000 in
theorem faults_any (w : World) (kd : Int) (AW AR AS : Option Addr) (nW cW nR cR nS cS : Nat) (hlo : -9223372036854775808 ≤ kd) (hhi : kd ≤ 9223372036854775807) :
    Calls Tryd.prog 25 #[.agg #[.int .i64 kd, .slice AW nW cW, .slice AR nR cR], .slice AS nS cS] w fun e w' => e = .returned (.slice (some ⟨w.heap.size + 5, 0, none⟩) 5 5) ∧ FL w' w.heap.size kd AW AR AS nW cW nR cR nS cS ∧ Below w.heap.size w w' := by
  have HC := Lib.hid (fun W => Si.cl_any kd hlo hhi W)
  clear hlo hhi
  go_enter Tryd.func25, Tryd.ntmps25
  go_wp2_with (go_at_call 48; refine (HC.out _).mono ?_; rintro e w1 ⟨rfl, rfl⟩)
  go_ret
  refine ⟨rfl, ?_, to_ (to_ (to_ (to_ (to_ (alloc_ _ _) (alloc_ _ _)) (alloc_ _ _)) (alloc_ _ _)) (alloc_ _ _)) (alloc_ _ _)⟩
  have h1 := Blk.new w 25 #[.int .i64 kd, .slice AW nW cW, .slice AR nR cR]
  have h2 := Blk.new (w.alloc (.cells #[.int .i64 kd, .slice AW nW cW, .slice AR nR cR] 25)) 26 #[.slice AS nS cS]
  rw [World.size_alloc] at h2
  have h3 := Blk.new ((w.alloc (.cells #[.int .i64 kd, .slice AW nW cW, .slice AR nR cR] 25)).alloc (.cells #[.slice AS nS cS] 26)) 23 #[.slice AR nR cR]
  rw [World.size_alloc, World.size_alloc] at h3
  have h4 := Blk.new (((w.alloc (.cells #[.int .i64 kd, .slice AW nW cW, .slice AR nR cR] 25)).alloc (.cells #[.slice AS nS cS] 26)).alloc (.cells #[.slice AR nR cR] 23)) 3 #[.int .i64 (Si.clV kd)]
  rw [World.size_alloc, World.size_alloc, World.size_alloc] at h4
  have h5 := Blk.new ((((w.alloc (.cells #[.int .i64 kd, .slice AW nW cW, .slice AR nR cR] 25)).alloc (.cells #[.slice AS nS cS] 26)).alloc (.cells #[.slice AR nR cR] 23)).alloc (.cells #[.int .i64 (Si.clV kd)] 3)) 4 #[.bool (Si.clB kd)]
  rw [World.size_alloc, World.size_alloc, World.size_alloc, World.size_alloc] at h5
  refine ⟨⟨((((h1.alloc _).alloc _).alloc _).alloc _).alloc _, (((h2.alloc _).alloc _).alloc _).alloc _, ((h3.alloc _).alloc _).alloc _⟩, ⟨(h4.alloc _).alloc _, h5.alloc _⟩, ?_⟩
  have h6 := Blk.new (((((w.alloc (.cells #[.int .i64 kd, .slice AW nW cW, .slice AR nR cR] 25)).alloc (.cells #[.slice AS nS cS] 26)).alloc (.cells #[.slice AR nR cR] 23)).alloc (.cells #[.int .i64 (Si.clV kd)] 3)).alloc (.cells #[.bool (Si.clB kd)] 4)) 87
  simp only [World.size_alloc] at h6
  exact h6 _

section
variable {W : World} {q : Nat} {kd : Int} {AW AR AS : Option Addr} {nW cW nR cR nS cS : Nat} {rs : List Rl} {ss : List Sy}
def c1V (kd : Int) : Bool := !Si.clB kd
def c2V (nW : Nat) (rs : List Rl) (i : Nat) : Bool := !(decide (0 ≤ (rlAt rs i).1) && decide ((rlAt rs i).1 < (nW : Int)))
def c3V (rs : List Rl) (i : Nat) : Bool := decide (0 < i) && decide ((rlAt rs i).1 ≤ (rlAt rs (i - 1)).1)
def c4V (nS : Nat) (rs : List Rl) (i : Nat) : Bool := !(decide (0 ≤ (rlAt rs i).2.1) && decide ((rlAt rs i).2.1 < (nS : Int)))
def c5V (kd : Int) (rs : List Rl) (ss : List Sy) (i : Nat) : Bool := !isOfV (syAt ss (rlAt rs i).2.1.toNat) (Si.clV kd)
def FAns (b : Bool) (w : World) (e : Ending) (w' : World) : Prop := e = .returned (.bool b) ∧ Below w.heap.size w w'

theorem fl1 (h : FL W q kd AW AR AS nW cW nR cR nS cS) (i : Nat) : Calls Tryd.prog 49 #[.int .i64 (i : Int), .pointer (some ⟨q + 4, 0, none⟩)] W (FAns (c1V kd) W) := by
  have c := h.2.1.2.cell 0
  have c0 : W.cell? ⟨q + 4, 0, none⟩ = some (.bool (Si.clB kd)) := c
  unfold c1V
  generalize Si.clB kd = b at c0
  clear c h
  go_enter Tryd.func49, Tryd.ntmps49
  go_wp2_with fail
  go_ret
  exact ⟨rfl, Below.refl _ _⟩

set_option maxRecDepth 100000 in
theorem fl2 (h : FL W q kd AW AR AS nW cW nR cR nS cS) (hr : RlL W AR nR cR rs) (i : Nat) (hi : i < nR) : Calls Tryd.prog 50 #[.int .i64 (i : Int), .pointer (some ⟨q + 2, 0, none⟩), .pointer (some ⟨q, 0, none⟩)] W (FAns (c2V nW rs i) W) := by
  have c0 : W.cell? ⟨q + 2, 0, none⟩ = some (.slice AR nR cR) := h.1.2.2.cell 0
  have c1 : W.cell? ⟨q, 1, none⟩ = some (.slice AW nW cW) := h.1.1.cell 1
  obtain ⟨ad, rfl, _, d0, d1, d2⟩ := hr.at_ hi
  have hiI : (i : Int) < (nR : Int) := by omega
  have hi0 : 0 ≤ (i : Int) := by omega
  have HV := Lib.hid (show c2V nW rs i = !(decide (0 ≤ (rlAt rs i).1) && decide ((rlAt rs i).1 < (nW : Int))) from rfl)
  generalize (rlAt rs i).1 = x at d0 HV
  obtain ⟨bl, hbl⟩ : ∃ b, (decide (0 ≤ x) && decide (x < (nW : Int))) = b := ⟨_, rfl⟩
  have HPL := Lib.hid (fun W => placeD_any x (nW : Int) W)
  rw [hbl] at HV HPL
  clear h hr hi hbl
  go_enter Tryd.func50, Tryd.ntmps50
  go_wp2_with fail
  refine wp_region_noPanic ?_
  refine wp_region_held_drew (S := fun W => W.cell? ⟨q + 2, 0, none⟩ = some (.slice (some ad) nR cR) ∧ W.cell? ⟨q, 1, none⟩ = some (.slice AW nW cW) ∧ W.cell? (ad.add (i * 3)) = some (.int .i64 x)) (by kernel_rfl) (⟨c0, c1, d0⟩) (fun hHeld => ?_)
  refine wpAnyH_take (i := 0) rfl (by kernel_rfl) (by kernel_rfl) (by kernel_rfl) (fun _ _ _ h => h) (Or.inl ⟨by rfl, by intro W hSW; (try dsimp only at hSW); go_simp; try (with_reducible rfl)⟩) hHeld ?_
  try simp only [Act.put, List.getElem_toArray, List.getElem_cons_zero, List.getElem_cons_succ, List.setIfInBounds_toArray, List.set_cons_zero, List.set_cons_succ]
  refine wpAnyH_take (i := 1) rfl (by kernel_rfl) (by kernel_rfl) (by kernel_rfl) (fun _ _ _ h => h) (Or.inl ⟨by rfl, by intro W hSW; (try dsimp only at hSW); go_simp; try (with_reducible rfl)⟩) hHeld ?_
  try simp only [Act.put, List.getElem_toArray, List.getElem_cons_zero, List.getElem_cons_succ, List.setIfInBounds_toArray, List.set_cons_zero, List.set_cons_succ]
  refine wpAnyH_take (i := 2) rfl (by kernel_rfl) (by kernel_rfl) (by kernel_rfl) (fun _ _ _ h => h) (Or.inl ⟨by rfl, by intro W hSW; (try dsimp only at hSW); go_simp; try (with_reducible rfl)⟩) hHeld ?_
  try simp only [Act.put, List.getElem_toArray, List.getElem_cons_zero, List.getElem_cons_succ, List.setIfInBounds_toArray, List.set_cons_zero, List.set_cons_succ]
  refine wpAnyH_take (i := 3) rfl (by kernel_rfl) (by kernel_rfl) (by kernel_rfl) (fun _ _ _ h => h) (Or.inl ⟨by rfl, by intro W hSW; (try dsimp only at hSW); go_simp; try (with_reducible rfl)⟩) hHeld ?_
  try simp only [Act.put, List.getElem_toArray, List.getElem_cons_zero, List.getElem_cons_succ, List.setIfInBounds_toArray, List.set_cons_zero, List.set_cons_succ]
  refine wpAnyH_take (i := 4) rfl (by kernel_rfl) (by kernel_rfl) (by kernel_rfl) (fun _ _ _ h => h) (Or.inl ⟨by rfl, by intro W hSW; (try dsimp only at hSW); go_simp; try (with_reducible rfl)⟩) hHeld ?_
  try simp only [Act.put, List.getElem_toArray, List.getElem_cons_zero, List.getElem_cons_succ, List.setIfInBounds_toArray, List.set_cons_zero, List.set_cons_succ]
  refine wpAnyH_take (i := 5) rfl (by kernel_rfl) (by kernel_rfl) (by kernel_rfl) (fun _ _ _ h => h) (Or.inl ⟨by rfl, by intro W hSW; (try dsimp only at hSW); go_simp; try (with_reducible rfl)⟩) hHeld ?_
  try simp only [Act.put, List.getElem_toArray, List.getElem_cons_zero, List.getElem_cons_succ, List.setIfInBounds_toArray, List.set_cons_zero, List.set_cons_succ]
  refine wpAnyH_take (i := 6) rfl (by kernel_rfl) (by kernel_rfl) (by kernel_rfl) (fun _ _ _ h => h) (Or.inl ⟨by rfl, by intro W hSW; (try dsimp only at hSW); go_simp; try (with_reducible rfl)⟩) hHeld ?_
  try simp only [Act.put, List.getElem_toArray, List.getElem_cons_zero, List.getElem_cons_succ, List.setIfInBounds_toArray, List.set_cons_zero, List.set_cons_succ]
  refine wpAnyH_take (i := 7) rfl (by kernel_rfl) (by kernel_rfl) (by kernel_rfl) (fun _ _ _ h => h) (Or.inl ⟨by rfl, by intro W hSW; (try dsimp only at hSW); go_simp; try (with_reducible rfl)⟩) hHeld ?_
  try simp only [Act.put, List.getElem_toArray, List.getElem_cons_zero, List.getElem_cons_succ, List.setIfInBounds_toArray, List.set_cons_zero, List.set_cons_succ]
  refine wpAnyH_ready (rs := [8]) (by kernel_rfl) (by simp) ?_
  refine AllReadyH.cons rfl (fun K hK => ?_) AllReadyH.nil
  go_simp
  refine (HPL.out _).mono ?_
  rintro e w9 ⟨rfl, rfl⟩
  try go_wp2_with fail
  refine hK.out _ _ (hHeld) ?_
  clear hK K hHeld
  intro hHeld
  try simp only [Act.put, List.getElem_toArray, List.getElem_cons_zero, List.getElem_cons_succ, List.setIfInBounds_toArray, List.set_cons_zero, List.set_cons_succ]
  refine wpAnyH_take (i := 9) rfl (by kernel_rfl) (by kernel_rfl) (by kernel_rfl) (fun _ _ _ h => h) (Or.inl ⟨by rfl, by intro W hSW; (try dsimp only at hSW); go_simp; try (with_reducible rfl)⟩) hHeld ?_
  try simp only [Act.put, List.getElem_toArray, List.getElem_cons_zero, List.getElem_cons_succ, List.setIfInBounds_toArray, List.set_cons_zero, List.set_cons_succ]
  refine wpAnyH_take (i := 10) rfl (by kernel_rfl) (by kernel_rfl) (by kernel_rfl) (fun _ _ _ h => h) (Or.inl ⟨by rfl, by intro W hSW; (try dsimp only at hSW); go_simp; try (with_reducible rfl)⟩) hHeld ?_
  try simp only [Act.put, List.getElem_toArray, List.getElem_cons_zero, List.getElem_cons_succ, List.setIfInBounds_toArray, List.set_cons_zero, List.set_cons_succ]
  refine wpAnyH_done (by kernel_rfl) ?_ _
  refine NoPanic.normal ?_
  go_wp2_with fail
  go_ret
  exact ⟨by rw [HV.out]; rfl, drew_below W⟩

set_option maxRecDepth 100000 in
theorem fl4 (h : FL W q kd AW AR AS nW cW nR cR nS cS) (hr : RlL W AR nR cR rs) (i : Nat) (hi : i < nR) : Calls Tryd.prog 53 #[.int .i64 (i : Int), .pointer (some ⟨q + 2, 0, none⟩), .pointer (some ⟨q + 1, 0, none⟩)] W (FAns (c4V nS rs i) W) := by
  have c0 : W.cell? ⟨q + 2, 0, none⟩ = some (.slice AR nR cR) := h.1.2.2.cell 0
  have c1 : W.cell? ⟨q + 1, 0, none⟩ = some (.slice AS nS cS) := h.1.2.1.cell 0
  obtain ⟨ad, rfl, _, d0, d1, d2⟩ := hr.at_ hi
  have hiI : (i : Int) < (nR : Int) := by omega
  have hi0 : 0 ≤ (i : Int) := by omega
  have HV := Lib.hid (show c4V nS rs i = !(decide (0 ≤ (rlAt rs i).2.1) && decide ((rlAt rs i).2.1 < (nS : Int))) from rfl)
  generalize (rlAt rs i).2.1 = x at d1 HV
  obtain ⟨bl, hbl⟩ : ∃ b, (decide (0 ≤ x) && decide (x < (nS : Int))) = b := ⟨_, rfl⟩
  have HPL := Lib.hid (fun W => placeD_any x (nS : Int) W)
  rw [hbl] at HV HPL
  clear h hr hi hbl
  go_enter Tryd.func53, Tryd.ntmps53
  go_wp2_with fail
  refine wp_region_noPanic ?_
  refine wp_region_held_drew (S := fun W => W.cell? ⟨q + 2, 0, none⟩ = some (.slice (some ad) nR cR) ∧ W.cell? ⟨q + 1, 0, none⟩ = some (.slice AS nS cS) ∧ W.cell? ⟨(ad.add (i * 3)).block, (ad.add (i * 3)).off + 1, none⟩ = some (.int .i64 x)) (by kernel_rfl) (⟨c0, c1, d1⟩) (fun hHeld => ?_)
  refine wpAnyH_take (i := 0) rfl (by kernel_rfl) (by kernel_rfl) (by kernel_rfl) (fun _ _ _ h => h) (Or.inl ⟨by rfl, by intro W hSW; (try dsimp only at hSW); go_simp; try (with_reducible rfl)⟩) hHeld ?_
  try simp only [Act.put, List.getElem_toArray, List.getElem_cons_zero, List.getElem_cons_succ, List.setIfInBounds_toArray, List.set_cons_zero, List.set_cons_succ]
  refine wpAnyH_take (i := 1) rfl (by kernel_rfl) (by kernel_rfl) (by kernel_rfl) (fun _ _ _ h => h) (Or.inl ⟨by rfl, by intro W hSW; (try dsimp only at hSW); go_simp; try (with_reducible rfl)⟩) hHeld ?_
  try simp only [Act.put, List.getElem_toArray, List.getElem_cons_zero, List.getElem_cons_succ, List.setIfInBounds_toArray, List.set_cons_zero, List.set_cons_succ]
  refine wpAnyH_take (i := 2) rfl (by kernel_rfl) (by kernel_rfl) (by kernel_rfl) (fun _ _ _ h => h) (Or.inl ⟨by rfl, by intro W hSW; (try dsimp only at hSW); go_simp; try (with_reducible rfl)⟩) hHeld ?_
  try simp only [Act.put, List.getElem_toArray, List.getElem_cons_zero, List.getElem_cons_succ, List.setIfInBounds_toArray, List.set_cons_zero, List.set_cons_succ]
  refine wpAnyH_take (i := 3) rfl (by kernel_rfl) (by kernel_rfl) (by kernel_rfl) (fun _ _ _ h => h) (Or.inl ⟨by rfl, by intro W hSW; (try dsimp only at hSW); go_simp; try (with_reducible rfl)⟩) hHeld ?_
  try simp only [Act.put, List.getElem_toArray, List.getElem_cons_zero, List.getElem_cons_succ, List.setIfInBounds_toArray, List.set_cons_zero, List.set_cons_succ]
  refine wpAnyH_take (i := 4) rfl (by kernel_rfl) (by kernel_rfl) (by kernel_rfl) (fun _ _ _ h => h) (Or.inl ⟨by rfl, by intro W hSW; (try dsimp only at hSW); go_simp; try (with_reducible rfl)⟩) hHeld ?_
  try simp only [Act.put, List.getElem_toArray, List.getElem_cons_zero, List.getElem_cons_succ, List.setIfInBounds_toArray, List.set_cons_zero, List.set_cons_succ]
  refine wpAnyH_take (i := 5) rfl (by kernel_rfl) (by kernel_rfl) (by kernel_rfl) (fun _ _ _ h => h) (Or.inl ⟨by rfl, by intro W hSW; (try dsimp only at hSW); go_simp; try (with_reducible rfl)⟩) hHeld ?_
  try simp only [Act.put, List.getElem_toArray, List.getElem_cons_zero, List.getElem_cons_succ, List.setIfInBounds_toArray, List.set_cons_zero, List.set_cons_succ]
  refine wpAnyH_take (i := 6) rfl (by kernel_rfl) (by kernel_rfl) (by kernel_rfl) (fun _ _ _ h => h) (Or.inl ⟨by rfl, by intro W hSW; (try dsimp only at hSW); go_simp; try (with_reducible rfl)⟩) hHeld ?_
  try simp only [Act.put, List.getElem_toArray, List.getElem_cons_zero, List.getElem_cons_succ, List.setIfInBounds_toArray, List.set_cons_zero, List.set_cons_succ]
  refine wpAnyH_ready (rs := [7]) (by kernel_rfl) (by simp) ?_
  refine AllReadyH.cons rfl (fun K hK => ?_) AllReadyH.nil
  go_simp
  refine (HPL.out _).mono ?_
  rintro e w9 ⟨rfl, rfl⟩
  try go_wp2_with fail
  refine hK.out _ _ (hHeld) ?_
  clear hK K hHeld
  intro hHeld
  try simp only [Act.put, List.getElem_toArray, List.getElem_cons_zero, List.getElem_cons_succ, List.setIfInBounds_toArray, List.set_cons_zero, List.set_cons_succ]
  refine wpAnyH_take (i := 8) rfl (by kernel_rfl) (by kernel_rfl) (by kernel_rfl) (fun _ _ _ h => h) (Or.inl ⟨by rfl, by intro W hSW; (try dsimp only at hSW); go_simp; try (with_reducible rfl)⟩) hHeld ?_
  try simp only [Act.put, List.getElem_toArray, List.getElem_cons_zero, List.getElem_cons_succ, List.setIfInBounds_toArray, List.set_cons_zero, List.set_cons_succ]
  refine wpAnyH_take (i := 9) rfl (by kernel_rfl) (by kernel_rfl) (by kernel_rfl) (fun _ _ _ h => h) (Or.inl ⟨by rfl, by intro W hSW; (try dsimp only at hSW); go_simp; try (with_reducible rfl)⟩) hHeld ?_
  try simp only [Act.put, List.getElem_toArray, List.getElem_cons_zero, List.getElem_cons_succ, List.setIfInBounds_toArray, List.set_cons_zero, List.set_cons_succ]
  refine wpAnyH_done (by kernel_rfl) ?_ _
  refine NoPanic.normal ?_
  go_wp2_with fail
  go_ret
  exact ⟨by rw [HV.out]; rfl, drew_below W⟩

set_option maxRecDepth 100000 in
theorem fl3 (h : FL W q kd AW AR AS nW cW nR cR nS cS) (hr : RlL W AR nR cR rs) (i : Nat) (hi : i < nR) (hn : nR ≤ 1000000) : Calls Tryd.prog 52 #[.int .i64 (i : Int), .pointer (some ⟨q + 2, 0, none⟩)] W (FAns (c3V rs i) W) := by
  have c0 : W.cell? ⟨q + 2, 0, none⟩ = some (.slice AR nR cR) := h.1.2.2.cell 0
  cases i with
  | zero =>
    have HV := Lib.hid (show c3V rs 0 = false from rfl)
    clear h hr hi
    go_enter Tryd.func52, Tryd.ntmps52
    go_wp2_with fail
    go_quiet (fail)
    go_wp2_with fail
    go_ret
    exact ⟨by rw [HV.out]; rfl, below_drewN (Below.refl _ _) _⟩
  | succ j =>
    obtain ⟨ad, rfl, _, d0, _⟩ := hr.at_ hi
    obtain ⟨ad2, e2, _, f0, _⟩ := hr.at_ (show j < nR by omega)
    injection e2 with e2
    subst e2
    have hj1 : ((j + 1 : Nat) : Int) < (nR : Int) := by omega
    have hj2 : (j : Int) < (nR : Int) := by omega
    have hj0 : 0 ≤ (j : Int) := by omega
    have hj3 : 0 ≤ ((j + 1 : Nat) : Int) := by omega
    have hj4 : (0 : Int) < ((j + 1 : Nat) : Int) := by omega
    have hw : IntKind.i64.wrap (((j + 1 : Nat) : Int) - 1) = (j : Int) := by rw [show ((j + 1 : Nat) : Int) - 1 = (j : Int) by omega]; exact IntWalk.i64_in _ (by omega)
    have HV := Lib.hid (show c3V rs (j + 1) = decide ((rlAt rs (j + 1)).1 ≤ (rlAt rs j).1) from by unfold c3V; simp)
    generalize (rlAt rs (j + 1)).1 = x at d0 HV
    generalize (rlAt rs j).1 = y at f0 HV
    obtain ⟨m, hm⟩ : ∃ m, j + 1 = m := ⟨_, rfl⟩
    have hm0 : 0 < m := by omega
    rw [hm] at d0 hj1 hj3 hj4 hw ⊢
    have HV2 := Lib.hid (show c3V rs m = decide (x ≤ y) from by rw [← hm]; exact HV.out)
    clear h hr hi hm HV hn
    go_enter Tryd.func52, Tryd.ntmps52
    go_wp2_with fail
    refine wp_region_noPanic ?_
    refine wp_region_held_drew (S := fun W => W.cell? ⟨q + 2, 0, none⟩ = some (.slice (some ad) nR cR) ∧ W.cell? (ad.add (m * 3)) = some (.int .i64 x) ∧ W.cell? (ad.add (j * 3)) = some (.int .i64 y)) (by kernel_rfl) (⟨c0, d0, f0⟩) (fun hHeld => ?_)
    refine wpAnyH_take (i := 0) rfl (by kernel_rfl) (by kernel_rfl) (by kernel_rfl) (fun _ _ _ h => h) (Or.inl ⟨by rfl, by intro W hSW; (try dsimp only at hSW); go_simp; try (with_reducible rfl)⟩) hHeld ?_
    try simp only [Act.put, List.getElem_toArray, List.getElem_cons_zero, List.getElem_cons_succ, List.setIfInBounds_toArray, List.set_cons_zero, List.set_cons_succ]
    refine wpAnyH_take (i := 1) rfl (by kernel_rfl) (by kernel_rfl) (by kernel_rfl) (fun _ _ _ h => h) (Or.inl ⟨by rfl, by intro W hSW; (try dsimp only at hSW); go_simp; try (with_reducible rfl)⟩) hHeld ?_
    try simp only [Act.put, List.getElem_toArray, List.getElem_cons_zero, List.getElem_cons_succ, List.setIfInBounds_toArray, List.set_cons_zero, List.set_cons_succ]
    refine wpAnyH_take (i := 2) rfl (by kernel_rfl) (by kernel_rfl) (by kernel_rfl) (fun _ _ _ h => h) (Or.inl ⟨by rfl, by intro W hSW; (try dsimp only at hSW); go_simp; try (with_reducible rfl)⟩) hHeld ?_
    try simp only [Act.put, List.getElem_toArray, List.getElem_cons_zero, List.getElem_cons_succ, List.setIfInBounds_toArray, List.set_cons_zero, List.set_cons_succ]
    refine wpAnyH_take (i := 3) rfl (by kernel_rfl) (by kernel_rfl) (by kernel_rfl) (fun _ _ _ h => h) (Or.inl ⟨by rfl, by intro W hSW; (try dsimp only at hSW); go_simp; try (with_reducible rfl)⟩) hHeld ?_
    try simp only [Act.put, List.getElem_toArray, List.getElem_cons_zero, List.getElem_cons_succ, List.setIfInBounds_toArray, List.set_cons_zero, List.set_cons_succ]
    refine wpAnyH_take (i := 4) rfl (by kernel_rfl) (by kernel_rfl) (by kernel_rfl) (fun _ _ _ h => h) (Or.inl ⟨by rfl, by intro W hSW; (try dsimp only at hSW); go_simp; try (with_reducible rfl)⟩) hHeld ?_
    try simp only [Act.put, List.getElem_toArray, List.getElem_cons_zero, List.getElem_cons_succ, List.setIfInBounds_toArray, List.set_cons_zero, List.set_cons_succ]
    refine wpAnyH_take (i := 5) rfl (by kernel_rfl) (by kernel_rfl) (by kernel_rfl) (fun _ _ _ h => h) (Or.inl ⟨by rfl, by intro W hSW; (try dsimp only at hSW); go_simp; try (with_reducible rfl)⟩) hHeld ?_
    try simp only [Act.put, List.getElem_toArray, List.getElem_cons_zero, List.getElem_cons_succ, List.setIfInBounds_toArray, List.set_cons_zero, List.set_cons_succ]
    refine wpAnyH_take (i := 6) rfl (by kernel_rfl) (by kernel_rfl) (by kernel_rfl) (fun _ _ _ h => h) (Or.inl ⟨by rfl, by intro W hSW; (try dsimp only at hSW); go_simp; try (with_reducible rfl)⟩) hHeld ?_
    try simp only [Act.put, List.getElem_toArray, List.getElem_cons_zero, List.getElem_cons_succ, List.setIfInBounds_toArray, List.set_cons_zero, List.set_cons_succ]
    refine wpAnyH_take (i := 7) rfl (by kernel_rfl) (by kernel_rfl) (by kernel_rfl) (fun _ _ _ h => h) (Or.inl ⟨by rfl, by intro W hSW; (try dsimp only at hSW); go_simp; try (with_reducible rfl)⟩) hHeld ?_
    try simp only [Act.put, List.getElem_toArray, List.getElem_cons_zero, List.getElem_cons_succ, List.setIfInBounds_toArray, List.set_cons_zero, List.set_cons_succ]
    refine wpAnyH_take (i := 8) rfl (by kernel_rfl) (by kernel_rfl) (by kernel_rfl) (fun _ _ _ h => h) (Or.inl ⟨by rfl, by intro W hSW; (try dsimp only at hSW); go_simp; try (with_reducible rfl)⟩) hHeld ?_
    try simp only [Act.put, List.getElem_toArray, List.getElem_cons_zero, List.getElem_cons_succ, List.setIfInBounds_toArray, List.set_cons_zero, List.set_cons_succ]
    refine wpAnyH_take (i := 9) rfl (by kernel_rfl) (by kernel_rfl) (by kernel_rfl) (fun _ _ _ h => h) (Or.inl ⟨by rfl, by intro W hSW; (try dsimp only at hSW); go_simp; try (with_reducible rfl)⟩) hHeld ?_
    try simp only [Act.put, List.getElem_toArray, List.getElem_cons_zero, List.getElem_cons_succ, List.setIfInBounds_toArray, List.set_cons_zero, List.set_cons_succ]
    refine wpAnyH_take (i := 10) rfl (by kernel_rfl) (by kernel_rfl) (by kernel_rfl) (fun _ _ _ h => h) (Or.inl ⟨by rfl, by intro W hSW; (try dsimp only at hSW); go_simp; try (with_reducible rfl)⟩) hHeld ?_
    try simp only [Act.put, List.getElem_toArray, List.getElem_cons_zero, List.getElem_cons_succ, List.setIfInBounds_toArray, List.set_cons_zero, List.set_cons_succ]
    refine wpAnyH_take (i := 11) rfl (by kernel_rfl) (by kernel_rfl) (by kernel_rfl) (fun _ _ _ h => h) (Or.inl ⟨by rfl, by intro W hSW; (try dsimp only at hSW); go_simp; try (with_reducible rfl)⟩) hHeld ?_
    try simp only [Act.put, List.getElem_toArray, List.getElem_cons_zero, List.getElem_cons_succ, List.setIfInBounds_toArray, List.set_cons_zero, List.set_cons_succ]
    refine wpAnyH_take (i := 12) rfl (by kernel_rfl) (by kernel_rfl) (by kernel_rfl) (fun _ _ _ h => h) (Or.inl ⟨by rfl, by intro W hSW; (try dsimp only at hSW); go_simp; try (with_reducible rfl)⟩) hHeld ?_
    try simp only [Act.put, List.getElem_toArray, List.getElem_cons_zero, List.getElem_cons_succ, List.setIfInBounds_toArray, List.set_cons_zero, List.set_cons_succ]
    refine wpAnyH_take (i := 13) rfl (by kernel_rfl) (by kernel_rfl) (by kernel_rfl) (fun _ _ _ h => h) (Or.inl ⟨by rfl, by intro W hSW; (try dsimp only at hSW); go_simp; try (with_reducible rfl)⟩) hHeld ?_
    try simp only [Act.put, List.getElem_toArray, List.getElem_cons_zero, List.getElem_cons_succ, List.setIfInBounds_toArray, List.set_cons_zero, List.set_cons_succ]
    refine wpAnyH_take (i := 14) rfl (by kernel_rfl) (by kernel_rfl) (by kernel_rfl) (fun _ _ _ h => h) (Or.inl ⟨by rfl, by intro W hSW; (try dsimp only at hSW); go_simp; try (with_reducible rfl)⟩) hHeld ?_
    try simp only [Act.put, List.getElem_toArray, List.getElem_cons_zero, List.getElem_cons_succ, List.setIfInBounds_toArray, List.set_cons_zero, List.set_cons_succ]
    refine wpAnyH_take (i := 15) rfl (by kernel_rfl) (by kernel_rfl) (by kernel_rfl) (fun _ _ _ h => h) (Or.inl ⟨by rfl, by intro W hSW; (try dsimp only at hSW); go_simp; try (with_reducible rfl)⟩) hHeld ?_
    try simp only [Act.put, List.getElem_toArray, List.getElem_cons_zero, List.getElem_cons_succ, List.setIfInBounds_toArray, List.set_cons_zero, List.set_cons_succ]
    refine wpAnyH_take (i := 16) rfl (by kernel_rfl) (by kernel_rfl) (by kernel_rfl) (fun _ _ _ h => h) (Or.inl ⟨by rfl, by intro W hSW; (try dsimp only at hSW); go_simp; try (with_reducible rfl)⟩) hHeld ?_
    try simp only [Act.put, List.getElem_toArray, List.getElem_cons_zero, List.getElem_cons_succ, List.setIfInBounds_toArray, List.set_cons_zero, List.set_cons_succ]
    refine wpAnyH_done (by kernel_rfl) ?_ _
    refine NoPanic.normal ?_
    go_wp2_with fail
    go_ret
    exact ⟨by rw [HV2.out]; rfl, drew_below W⟩
end
end Go.Proofs.YthkbdclnnpcoiaaDoor.By
