/-
  WALKS of layer 23: isPlace, reject, symbolAt, symbols, and what symbols hands back.
-/
import Derived.Test.YtmabenffdpipmaaSa
namespace Go.Proofs.Ytmabenffdpipmaa.By
open Go.RowKit
open Mem Rf
attribute [local go_sem] Oper.semAt_some

theorem isPlace_any (p n : Int) (w : World) : Calls Try.prog 19 #[.int .i64 p, .int .i64 n] w fun e w' => e = .returned (.bool (decide (0 ≤ p) && decide (p < n))) ∧ w' = w := by
  by_cases h0 : 0 ≤ p
  · have h0' : decide (0 ≤ p) = true := decide_eq_true h0
    by_cases h1 : p < n
    · have h1' : decide (p < n) = true := decide_eq_true h1
      rw [h0', h1']
      go_enter Try.func19, Try.ntmps19
      go_wp2
      all_goals go_ret
      all_goals exact ⟨rfl, rfl⟩
    · have h1' : decide (p < n) = false := decide_eq_false h1
      rw [h0', h1']
      go_enter Try.func19, Try.ntmps19
      go_wp2
      all_goals go_ret
      all_goals exact ⟨rfl, rfl⟩
  · have h0' : decide (0 ≤ p) = false := decide_eq_false h0
    rw [h0', Bool.false_and]
    go_enter Try.func19, Try.ntmps19
    go_wp2
    all_goals go_ret
    all_goals exact ⟨rfl, rfl⟩

def rejV (e a b : Int) : Value := .agg #[.int .i64 e, .int .i64 a, .int .i64 b]

theorem reject_any (e a b : Int) (w : World) : Calls Try.prog 22 #[.int .i64 e, .agg #[.int .i64 a, .int .i64 b]] w fun r w' => r = .returned (rejV e a b) ∧ Below w.heap.size w w' := by
  go_enter Try.func22, Try.ntmps22
  go_wp2
  refine bodyPost_ret (v := rejV e a b) ?_ rfl ⟨rfl, ((Below.refl _ _).alloc (Nat.le_refl _) _).alloc (by simp) _⟩
  simp [results, Try.results22, go_sem, rejV]

theorem symbols_any (A : Option Addr) (n c : Nat) (w : World) :
    Calls Try.prog 23 #[.slice A n c] w fun e w' => e = .returned (.func (.func 28) #[] #[.pointer (some ⟨w.heap.size, 0, none⟩)]) ∧ w' = w.alloc (.cells #[.slice A n c] 22) := by
  go_enter Try.func23, Try.ntmps23
  go_wp2
  go_ret
  exact ⟨rfl, rfl⟩

theorem globals_any (A : Option Addr) (n c : Nat) (w : World) :
    Calls Try.prog 21 #[.slice A n c] w fun e w' => e = .returned (.func (.func 27) #[] #[.pointer (some ⟨w.heap.size, 0, none⟩)]) ∧ w' = w.alloc (.cells #[.slice A n c] 22) := by
  go_enter Try.func21, Try.ntmps21
  go_wp2
  go_ret
  exact ⟨rfl, rfl⟩

set_option maxRecDepth 100000 in
set_option maxHeartbeats 2000000 in
theorem symbolAt_any (A : Option Addr) (n c B : Nat) (os : List Ob) (w : World) (h : ObL w B A n c os) (hB : B ≤ w.heap.size) (i k : Nat) (hi : i < n) (hk : k < (obAt os i).n) :
    Calls Try.prog 26 #[.slice A n c, plV (i, k)] w fun e w' => e = .returned (syV (syAt (obAt os i).l k)) ∧ Below w.heap.size w w' := by
  obtain ⟨ad, rfl, hb, c0, _, _⟩ := h.at_ hi
  obtain ⟨ad2, e2, hb2, s0, s1, s2, s3, s4⟩ := syl_at (h.2 i hi) hk
  obtain ⟨o, ho⟩ : ∃ o, obAt os i = o := ⟨_, rfl⟩
  rw [ho] at c0 e2 s0 s1 s2 s3 s4 hk ⊢
  obtain ⟨oA, on, oc, ol, oF, oD⟩ := o
  dsimp only at c0 e2 s0 s1 s2 s3 s4 hk ⊢
  subst e2
  have hb := Nat.lt_of_lt_of_le hb hB
  have hb2 := Nat.lt_of_lt_of_le hb2 hB
  clear ho h hB
  obtain ⟨W0, hW0⟩ : ∃ W0, (w.alloc (.cells #[.int .i64 (i : Int), .int .i64 (k : Int)] 46)).alloc (.cells #[.string ⟨#[]⟩, .bool false, .int .i64 0, .int .i64 0, .int .i64 0] 42) = W0 := ⟨_, rfl⟩
  have HB0 : Hid (Below w.heap.size w W0) := Lib.hid (hW0 ▸ ((Below.refl _ _).alloc (Nat.le_refl _) _).alloc (by simp) _)
  have kp : ∀ (p : Addr) (u : Value), w.cell? p = some u → W0.cell? p = some u := fun p u hc => (HB0.out.cell (World.block_lt_of_cell? w _ hc)).trans hc
  have hpb : Blk W0 w.heap.size 46 #[.int .i64 (i : Int), .int .i64 (k : Int)] := hW0 ▸ (Blk.new w _ _).alloc _
  have hrb : Blk W0 (w.heap.size + 1) 42 #[.string ⟨#[]⟩, .bool false, .int .i64 0, .int .i64 0, .int .i64 0] := by
    rw [← hW0]
    have := Blk.new (w.alloc (.cells #[.int .i64 (i : Int), .int .i64 (k : Int)] 46)) 42 #[.string ⟨#[]⟩, .bool false, .int .i64 0, .int .i64 0, .int .i64 0]
    rwa [World.size_alloc] at this
  have HRB := Lib.hid hrb
  replace c0 := kp _ _ c0
  replace s0 := kp _ _ s0
  replace s1 := kp _ _ s1
  replace s2 := kp _ _ s2
  replace s3 := kp _ _ s3
  replace s4 := kp _ _ s4
  have p0 : W0.cell? ⟨w.heap.size, 0, none⟩ = some (.int .i64 (i : Int)) := hpb.cell 0
  have p1 : W0.cell? ⟨w.heap.size, 1, none⟩ = some (.int .i64 (k : Int)) := hpb.cell 1
  have r0 : W0.cell? ⟨w.heap.size + 1, 0, none⟩ = some (.string ⟨#[]⟩) := hrb.cell 0
  have r1 : W0.cell? ⟨w.heap.size + 1, 1, none⟩ = some (.bool false) := hrb.cell 1
  have r2 : W0.cell? ⟨w.heap.size + 1, 2, none⟩ = some (.int .i64 0) := hrb.cell 2
  have r3 : W0.cell? ⟨w.heap.size + 1, 3, none⟩ = some (.int .i64 0) := hrb.cell 3
  have r4 : W0.cell? ⟨w.heap.size + 1, 4, none⟩ = some (.int .i64 0) := hrb.cell 4
  have f0 := hrb.frozen 0
  have f1 := hrb.frozen 1
  have f2 := hrb.frozen 2
  have f3 := hrb.frozen 3
  have f4 := hrb.frozen 4
  have hlt := hrb.lt
  clear kp hpb hrb
  unfold plV syV
  generalize syAt ol k = s at *
  obtain ⟨y0, y1, y2, y3, y4⟩ := s
  dsimp only at s0 s1 s2 s3 s4 ⊢
  have hi0 : (i : Int) < (n : Int) := by omega
  have hi1 : (0 : Int) ≤ (i : Int) := by omega
  have hk0 : (k : Int) < (on : Int) := by omega
  have hk1 : (0 : Int) ≤ (k : Int) := by omega
  go_enter Try.func26, Try.ntmps26
  go_wp2
  go_region
  go_wp2
  have hfin : Blk (((((W0.setCell ⟨w.heap.size + 1, 0, none⟩ (.string y0)).setCell ⟨w.heap.size + 1, 1, none⟩ (.bool y1)).setCell ⟨w.heap.size + 1, 2, none⟩ (.int .i64 y2)).setCell ⟨w.heap.size + 1, 3, none⟩ (.int .i64 y3)).setCell ⟨w.heap.size + 1, 4, none⟩ (.int .i64 y4)).drew (w.heap.size + 1) 42 #[.string y0, .bool y1, .int .i64 y2, .int .i64 y3, .int .i64 y4] :=
    ((((HRB.out.stored 0 _).stored 1 _).stored 2 _).stored 3 _).stored 4 _
  refine bodyPost_ret (results_cell_row Try.results26 _ _ (w.heap.size + 1) 42 #[.string y0, .bool y1, .int .i64 y2, .int .i64 y3, .int .i64 y4] (0, 0) _ rfl hfin Try.underlying42 rfl (by kernel_rfl)) rfl ⟨rfl, ?_⟩
  exact below_drewN (((((HB0.out.setCell (p := ⟨w.heap.size + 1, 0, none⟩) (by simp) _).setCell (p := ⟨w.heap.size + 1, 1, none⟩) (by simp) _).setCell (p := ⟨w.heap.size + 1, 2, none⟩) (by simp) _).setCell (p := ⟨w.heap.size + 1, 3, none⟩) (by simp) _).setCell (p := ⟨w.heap.size + 1, 4, none⟩) (by simp) _) 1
end Go.Proofs.Ytmabenffdpipmaa.By
