/-
  WALK of layer 23: Twice.
-/
import Derived.Test.YtmabenffdpipmaaSm
import Derived.Test.YtmabenffdpipmaaSk
namespace Go.Proofs.Ytmabenffdpipmaa.By
open Go.RowKit Go.Maps
open Mem Rf
set_option linter.unusedSimpArgs false
set_option linter.unusedVariables false
attribute [local go_sem] Oper.semAt_some

theorem globs_has {L : List (List Sy)} {x : Gs} (h : x ∈ globs L) : ∃ p, findV L x.2.1 = some p := findV_is h
theorem globs_first {L : List (List Sy)} {pre : List Gs} {x : Gs} (h : pre ++ [x] <+: globs L) (h1 : noTwo L pre) (h2 : findV L x.2.1 ≠ some x.1) : twiceV L = some x.1 := by
  unfold twiceV
  rw [find_first h (fun y hy => by simpa using h1 y hy) (by simpa using h2)]; rfl
theorem noTwo_snoc {L : List (List Sy)} {pre : List Gs} {x : Gs} (h1 : noTwo L pre) (h2 : findV L x.2.1 = some x.1) : noTwo L (pre ++ [x]) := fun y hy => by
  rcases List.mem_append.1 hy with hy | hy
  · exact h1 y hy
  · obtain rfl := List.mem_singleton.1 hy; exact h2

set_option maxRecDepth 100000 in
set_option maxHeartbeats 4000000 in
theorem twice_any (A : Option Addr) (n c B : Nat) (os : List Ob) (w : World) (hO : ObL w B A n c os) (hB : B ≤ w.heap.size) (hN : NmP os) :
    Calls Try.prog 12 #[.slice A n c] w fun e w' => e = .returned (rejE (twiceV (lists os))) ∧ Below w.heap.size w w' := by
  obtain ⟨W1, hW1⟩ : ∃ W1, w.alloc (.cells #[.int .i64 0, .int .i64 0, .int .i64 0] 31) = W1 := ⟨_, rfl⟩
  obtain ⟨W2, hW2⟩ : ∃ W2, W1.alloc (.cells #[.bool false] 4) = W2 := ⟨_, rfl⟩
  have hs1 : W1.heap.size = w.heap.size + 1 := by rw [← hW1]; simp
  have hs2 : W2.heap.size = w.heap.size + 2 := by rw [← hW2]; simp [hs1]
  have hb1 : Below w.heap.size w W1 := hW1 ▸ (Below.refl _ _).alloc (Nat.le_refl _) _
  have hb2 : Below w.heap.size w W2 := hW2 ▸ hb1.alloc (by omega) _
  have hrb : Blk W2 w.heap.size 31 #[.int .i64 0, .int .i64 0, .int .i64 0] := hW2 ▸ (hW1 ▸ Blk.new w _ _ : Blk W1 w.heap.size _ _).alloc _
  have hqb : Blk W2 (w.heap.size + 1) 4 #[.bool false] := by
    have := Blk.new W1 4 #[.bool false]
    rwa [hs1, hW2] at this
  have HC := Lib.hid (firsts_any A n c B os W2 (hO.below (hb2.mono hB)) (Nat.le_trans hB hb2.size) hN.names hN.many)
  have HT := Lib.hid (fun (X : World) (hX : Below w.heap.size w X) => globals_tells 3 X.heap.size B A n c os (X.alloc (.cells #[.slice A n c] 22)) ((Blk.new X _ _).cell 0) ((hO.below (hX.mono hB)).below ((Below.refl B X).alloc (Nat.le_trans hB hX.size) _)) (by have := hX.size; simp; omega))
  have HNM := Lib.hid (fun x (h : x ∈ globs (lists os)) => hN.names x (List.mem_filter.1 h).1)
  have HB2 := Lib.hid hb2
  have HRB := Lib.hid hrb
  have HQB := Lib.hid hqb
  have HB := Lib.hid hB
  generalize lists os = L at *
  clear hO hN hb1 hb2 hrb hqb hB
  refine (callsIn_wide (n := 4)).1 ?_
  refine callsIn_of_wp_marks Try.func12 rfl trivial ?_ rfl
  simp only [Try.ntmps12, List.size_toArray, List.length_cons, List.length_nil, Nat.reduceAdd, Nat.reduceSub, Array.replicate_succ, Array.replicate_zero, List.push_toArray, List.append_toArray, List.nil_append, List.cons_append]
  gi_wp2_with (first | (refine ⟨trivial, ?_⟩; gi_at_call 17; refine (callsIn_wide.2 HC.out).mono ?_; rintro e w3 ⟨m, mk, rfl, hm, hmp, hb3⟩; have HM := Lib.hid hm; have HMP := Lib.hid hmp; have HB3 := Lib.hid (HB2.out.trans (hb3.mono HB2.out.size)); have HB23 := Lib.hid hb3; clear hm hmp hb3) | (refine ⟨trivial, ?_⟩; gi_at_call 21; refine (callsIn_wide.2 (globals_any _ _ _ _)).mono ?_; rintro e w4 ⟨rfl, rfl⟩))
  obtain ⟨W4, hW4⟩ : ∃ W4, w3.alloc (.cells #[.map (some m)] 48) = W4 := ⟨_, rfl⟩
  obtain ⟨W5, hW5⟩ : ∃ W5, W4.alloc (.cells #[.slice A n c] 22) = W5 := ⟨_, rfl⟩
  have hs4 : W4.heap.size = w3.heap.size + 1 := by rw [← hW4]; simp
  have hs5 : W5.heap.size = w3.heap.size + 2 := by rw [← hW5]; simp [hs4]
  have hb4 : Below w.heap.size w W4 := hW4 ▸ HB3.out.alloc HB3.out.size _
  have hb5 : Below w.heap.size w W5 := hW5 ▸ hb4.alloc hb4.size _
  have h35 : Below w3.heap.size w3 W5 := hW5 ▸ (hW4 ▸ (Below.refl _ w3).alloc (Nat.le_refl _) _ : Below w3.heap.size w3 W4).alloc (by omega) _
  have hmp5 : Mp W5 m mk (findV L) := HMP.out.below h35 HMP.out.lt
  have hbx5 : W5.cell? ⟨w3.heap.size, 0, none⟩ = some (.map (some m)) := by rw [← hW5, ← hW4]; exact ((Blk.new w3 _ _).alloc _).cell 0
  have h25 : Below W2.heap.size W2 W5 := HB23.out.trans (h35.mono HB23.out.size)
  have hrb5 := HRB.out.below h25 HRB.out.lt
  have hqb5 := HQB.out.below h25 HQB.out.lt
  have hsz3 : w.heap.size + 2 ≤ w3.heap.size := by have := HB23.out.size; omega
  have hml := HMP.out.lt
  have HTA := Lib.hid (HT.out W4 hb4)
  rw [hW5] at HTA
  have hBs := HB.out
  have hm0 : w.heap.size + 2 ≤ m := by have := HM.out; omega
  rw [hW4, hW5]
  clear HT hb4 h25
  refine wpIn_rangeX rfl (by decide) (gf := 27) (lb := #[.pointer (some ⟨W4.heap.size, 0, none⟩)]) (by rw [hs4]; rfl) trivial (enters_of Try.func27 (by kernel_rfl) rfl) HTA.out (Below.refl _ _) (fun _ => rfl)
    (fun k => k < W5.heap.size) (fun k h h' => by unfold Two at h; omega) (fun k h => by omega) (fun k h => by unfold Two at h; omega) (by omega)
    (fun pre X => (noTwo L pre ∧ Mp X m mk (findV L) ∧ X.cell? ⟨w3.heap.size, 0, none⟩ = some (.map (some m))) ∧ (Blk X w.heap.size 31 #[.int .i64 0, .int .i64 0, .int .i64 0] ∧ Blk X (w.heap.size + 1) 4 #[.bool false]) ∧ Below w.heap.size w X ∧ W5.heap.size ≤ X.heap.size)
    (fun c pre X => c = .ret ∧ (∃ p : Pl, twiceV L = some p ∧ X.cell? ⟨w.heap.size, 0, none⟩ = some (.int .i64 12) ∧ X.cell? ⟨w.heap.size, 1, none⟩ = some (.int .i64 (p.1 : Int)) ∧ X.cell? ⟨w.heap.size, 2, none⟩ = some (.int .i64 (p.2 : Int)) ∧ X.cell? ⟨w.heap.size + 1, 0, none⟩ = some (.bool true)) ∧ Below w.heap.size w X ∧ W5.heap.size ≤ X.heap.size)
    (fun s X Y ⟨⟨h1, h2, h3⟩, ⟨h4, h5⟩, h6, h7⟩ hk => ⟨⟨h1, h2.block (hk.block _ (by omega) h2.lt), hk.cell (by show w3.heap.size < W5.heap.size; omega) h3⟩, ⟨(hk.block _ (by omega) h4.lt).trans h4, (hk.block _ (by omega) h5.lt).trans h5⟩, h6.trans (hk.below (by omega) fun k hk1 => by omega), Nat.le_trans h7 hk.size⟩)
    (fun c s X Y ⟨h0, ⟨p, h1, h2, h3, h4, h5⟩, h6, h7⟩ hk hcl => ⟨h0, ⟨p, h1, by rw [hcl]; exact h2, by rw [hcl]; exact h3, by rw [hcl]; exact h4, by rw [hcl]; exact h5⟩, h6.trans (hk.below (by omega) fun k hk1 => by omega), Nat.le_trans h7 hk.size⟩)
    ⟨⟨fun x hx => absurd hx (by simp), hmp5, hbx5⟩, ⟨hrb5, hqb5⟩, hb5, Nat.le_refl _⟩
    (fun x X => { tmps := #[.slice A n c, undef, .pointer (some ⟨w.heap.size, 0, none⟩), .pointer (some ⟨w.heap.size + 1, 0, none⟩), .pointer (some ⟨w3.heap.size, 0, none⟩), .pointer (some ⟨X.heap.size, 0, none⟩), .pointer (some ⟨X.heap.size + 1, 0, none⟩), .slice A n c, .map (some m), .slice A n c, .func (.func 27) #[] #[.pointer (some ⟨w3.heap.size + 1, 0, none⟩)], plV x.1, syV x.2, undef, undef, undef, undef, undef, undef, undef, undef, undef], defers := [] })
    (fun x X => (X.alloc (.cells #[.int .i64 (x.1.1 : Int), .int .i64 (x.1.2 : Int)] 46)).alloc (.cells (encSy x.2).toArray 42))
    (fun x X => ((Keeps.refl _ X).alloc _).alloc _) ?assign ?body ?done ?stop
  case assign =>
    rintro l1 ⟨⟨a, b⟩, y0, y1, y2, y3, y4⟩ X K hK
    unfold gsE plV syV
    unfold plV syV encSy at hK
    dsimp only at hK ⊢
    gi_wp2
    exact hK
  case body =>
    rintro l1 pre ⟨⟨a, b⟩, y0, y1, y2, y3, y4⟩ V0 X ⟨⟨hno, hmp, hbx⟩, ⟨hrb, hqb⟩, hbel, hsz1⟩ hpre hsz hk hcl
    unfold encSy at hk hcl
    unfold plV syV
    dsimp only at hk hcl ⊢
    obtain ⟨p0, p1, s0, s1, s2, s3, s4⟩ := two_cells hcl
    have hmem : ((a, b), y0, y1, y2, y3, y4) ∈ globs L := hpre.subset (by simp)
    have hn := HNM.out _ hmem
    obtain ⟨⟨pa, pb⟩, hp⟩ := globs_has hmem
    dsimp only at hn hp
    have hlk := hmp.look1 hn
    rw [hp] at hlk
    unfold plV gP at hlk
    dsimp only [Option.getD] at hlk
    have HP := Lib.hid hp
    have HNO := Lib.hid hno
    have HPRE := Lib.hid hpre
    have HMX := Lib.hid hmp
    have HBX := Lib.hid hbx
    have HRX := Lib.hid hrb
    have HQX := Lib.hid hqb
    have HBE := Lib.hid hbel
    clear hk hcl hmem hp hno hpre hmp hrb hqb hbel
    by_cases e1 : pa = a
    · subst e1
      by_cases e2 : pb = b
      · subst e2
        gi_wp2
        exact ⟨Keeps.refl _ X, ⟨noTwo_snoc HNO.out HP.out, HMX.out, HBX.out⟩, ⟨HRX.out, HQX.out⟩, HBE.out, hsz1⟩
      · have e2' : ((pb : Int) == (b : Int)) = false := by simp; omega
        have HV := Lib.hid (globs_first HPRE.out HNO.out (by rw [HP.out]; intro e; injection e with e; injection e with _ e; exact e2 e))
        clear e2
        gi_wp2_with (refine ⟨trivial, ?_⟩; gi_at_call 22; refine (CallsIn.inRound l1 (callsIn_wide.2 (reject_any _ _ _ _))).mono ?_; rintro e w6 ⟨rfl, hb6⟩; unfold rejV; have hr6 := HRX.out.below hb6 HRX.out.lt; have hq6 := HQX.out.below hb6 HQX.out.lt; have r0 : w6.cell? ⟨w.heap.size, 0, none⟩ = some (.int .i64 0) := hr6.cell 0; have r1 : w6.cell? ⟨w.heap.size, 1, none⟩ = some (.int .i64 0) := hr6.cell 1; have r2 : w6.cell? ⟨w.heap.size, 2, none⟩ = some (.int .i64 0) := hr6.cell 2; have t0 : w6.cell? ⟨w.heap.size + 1, 0, none⟩ = some (.bool false) := hq6.cell 0; have f0 := hr6.frozen 0; have f1 := hr6.frozen 1; have f2 := hr6.frozen 2; have g0 := hq6.frozen 0; have HR6 := Lib.hid hr6; have HQ6 := Lib.hid hq6; have HB6 := Lib.hid hb6; clear hb6 hr6 hq6)
        have hf3 : Blk (((w6.setCell ⟨w.heap.size, 0, none⟩ (.int .i64 12)).setCell ⟨w.heap.size, 1, none⟩ (.int .i64 (pa : Int))).setCell ⟨w.heap.size, 2, none⟩ (.int .i64 (b : Int))) w.heap.size 31 #[.int .i64 12, .int .i64 (pa : Int), .int .i64 (b : Int)] := ((HR6.out.stored 0 _).stored 1 _).stored 2 _
        have hf4 := hf3.only (only_set (only_refl _ (w.heap.size + 1)) 0 (.bool true)) (by omega)
        have hg4 := (((HQ6.out.only (only_set (only_refl _ w.heap.size) 0 (.int .i64 12)) (by omega)).only (only_set (only_refl _ w.heap.size) 1 (.int .i64 (pa : Int))) (by omega)).only (only_set (only_refl _ w.heap.size) 2 (.int .i64 (b : Int))) (by omega)).stored 0 (.bool true)
        have hnu : ∀ k, k < w.heap.size + 2 → ¬ (W5.heap.size + 2 ≤ k ∨ Two W5.heap.size k) := fun k hk h => by unfold Two at h; omega
        refine ⟨((((Keeps.of_below HB6.out fun k _ h => h).setCell (p := ⟨w.heap.size, 0, none⟩) (hnu _ (by simp)) _).setCell (p := ⟨w.heap.size, 1, none⟩) (hnu _ (by simp)) _).setCell (p := ⟨w.heap.size, 2, none⟩) (hnu _ (by simp)) _).setCell (p := ⟨w.heap.size + 1, 0, none⟩) (hnu _ (by simp)) _, rfl, ⟨_, HV.out, hf4.cell 0, hf4.cell 1, hf4.cell 2, hg4.cell 0⟩, ?_, ?_⟩
        · exact ((((HBE.out.trans (HB6.out.mono HBE.out.size)).setCell (p := ⟨w.heap.size, 0, none⟩) (by simp) _).setCell (p := ⟨w.heap.size, 1, none⟩) (by simp) _).setCell (p := ⟨w.heap.size, 2, none⟩) (by simp) _).setCell (p := ⟨w.heap.size + 1, 0, none⟩) (by simp) _
        · have := HB6.out.size
          simp [World.setCell]; omega
    · have e1' : ((pa : Int) == (a : Int)) = false := by simp; omega
      have HV := Lib.hid (globs_first HPRE.out HNO.out (by rw [HP.out]; intro e; injection e with e; injection e with e _; exact e1 e))
      clear e1
      gi_wp2_with (refine ⟨trivial, ?_⟩; gi_at_call 22; refine (CallsIn.inRound l1 (callsIn_wide.2 (reject_any _ _ _ _))).mono ?_; rintro e w6 ⟨rfl, hb6⟩; unfold rejV; have hr6 := HRX.out.below hb6 HRX.out.lt; have hq6 := HQX.out.below hb6 HQX.out.lt; have r0 : w6.cell? ⟨w.heap.size, 0, none⟩ = some (.int .i64 0) := hr6.cell 0; have r1 : w6.cell? ⟨w.heap.size, 1, none⟩ = some (.int .i64 0) := hr6.cell 1; have r2 : w6.cell? ⟨w.heap.size, 2, none⟩ = some (.int .i64 0) := hr6.cell 2; have t0 : w6.cell? ⟨w.heap.size + 1, 0, none⟩ = some (.bool false) := hq6.cell 0; have f0 := hr6.frozen 0; have f1 := hr6.frozen 1; have f2 := hr6.frozen 2; have g0 := hq6.frozen 0; have HR6 := Lib.hid hr6; have HQ6 := Lib.hid hq6; have HB6 := Lib.hid hb6; clear hb6 hr6 hq6)
      have hf3 : Blk (((w6.setCell ⟨w.heap.size, 0, none⟩ (.int .i64 12)).setCell ⟨w.heap.size, 1, none⟩ (.int .i64 (a : Int))).setCell ⟨w.heap.size, 2, none⟩ (.int .i64 (b : Int))) w.heap.size 31 #[.int .i64 12, .int .i64 (a : Int), .int .i64 (b : Int)] := ((HR6.out.stored 0 _).stored 1 _).stored 2 _
      have hf4 := hf3.only (only_set (only_refl _ (w.heap.size + 1)) 0 (.bool true)) (by omega)
      have hg4 := (((HQ6.out.only (only_set (only_refl _ w.heap.size) 0 (.int .i64 12)) (by omega)).only (only_set (only_refl _ w.heap.size) 1 (.int .i64 (a : Int))) (by omega)).only (only_set (only_refl _ w.heap.size) 2 (.int .i64 (b : Int))) (by omega)).stored 0 (.bool true)
      have hnu : ∀ k, k < w.heap.size + 2 → ¬ (W5.heap.size + 2 ≤ k ∨ Two W5.heap.size k) := fun k hk h => by unfold Two at h; omega
      refine ⟨((((Keeps.of_below HB6.out fun k _ h => h).setCell (p := ⟨w.heap.size, 0, none⟩) (hnu _ (by simp)) _).setCell (p := ⟨w.heap.size, 1, none⟩) (hnu _ (by simp)) _).setCell (p := ⟨w.heap.size, 2, none⟩) (hnu _ (by simp)) _).setCell (p := ⟨w.heap.size + 1, 0, none⟩) (hnu _ (by simp)) _, rfl, ⟨_, HV.out, hf4.cell 0, hf4.cell 1, hf4.cell 2, hg4.cell 0⟩, ?_, ?_⟩
      · exact ((((HBE.out.trans (HB6.out.mono HBE.out.size)).setCell (p := ⟨w.heap.size, 0, none⟩) (by simp) _).setCell (p := ⟨w.heap.size, 1, none⟩) (by simp) _).setCell (p := ⟨w.heap.size, 2, none⟩) (by simp) _).setCell (p := ⟨w.heap.size + 1, 0, none⟩) (by simp) _
      · have := HB6.out.size
        simp [World.setCell]; omega
  case done =>
    rintro X ⟨⟨hno, hmp, hbx⟩, ⟨hrb, hqb⟩, hbel, hsz1⟩ hD
    have HV := Lib.hid (twice_all hno)
    have HBE := Lib.hid hbel
    have HRB := Lib.hid hrb
    have HQB := Lib.hid hqb
    have r0 : X.cell? ⟨w.heap.size, 0, none⟩ = some (.int .i64 0) := hrb.cell 0
    have r1 : X.cell? ⟨w.heap.size, 1, none⟩ = some (.int .i64 0) := hrb.cell 1
    have r2 : X.cell? ⟨w.heap.size, 2, none⟩ = some (.int .i64 0) := hrb.cell 2
    have t0 : X.cell? ⟨w.heap.size + 1, 0, none⟩ = some (.bool false) := hqb.cell 0
    have f0 := hrb.frozen 0
    have f1 := hrb.frozen 1
    have f2 := hrb.frozen 2
    have g0 := hqb.frozen 0
    clear hno hmp hrb hqb hbel
    gi_wp2
    refine ⟨by simp, .inl ⟨_, _, rfl, run_takeDeferred (b := W5.heap.size) ?hd, ?_⟩⟩
    case hd =>
      rw [Below.heap_setCell _ _ _ _ (by dsimp only; omega), Below.heap_setCell _ _ _ _ (by dsimp only; omega), Below.heap_setCell _ _ _ _ (by dsimp only; omega), Below.heap_setCell _ _ _ _ (by dsimp only; omega)]
      exact hD
    have hf3 : Blk (((X.setCell ⟨w.heap.size, 0, none⟩ (.int .i64 0)).setCell ⟨w.heap.size, 1, none⟩ (.int .i64 0)).setCell ⟨w.heap.size, 2, none⟩ (.int .i64 0)) w.heap.size 31 #[.int .i64 0, .int .i64 0, .int .i64 0] := ((HRB.out.stored 0 _).stored 1 _).stored 2 _
    have hf4 := hf3.only (only_set (only_refl _ (w.heap.size + 1)) 0 (.bool false)) (by omega)
    have hg4 := (((HQB.out.only (only_set (only_refl _ w.heap.size) 0 (.int .i64 0)) (by omega)).only (only_set (only_refl _ w.heap.size) 1 (.int .i64 0)) (by omega)).only (only_set (only_refl _ w.heap.size) 2 (.int .i64 0)) (by omega)).stored 0 (.bool false)
    have hbw := ((((HBE.out.setCell (p := ⟨w.heap.size, 0, none⟩) (by simp) (.int .i64 0)).setCell (p := ⟨w.heap.size, 1, none⟩) (by simp) (.int .i64 0)).setCell (p := ⟨w.heap.size, 2, none⟩) (by simp) (.int .i64 0)).setCell (p := ⟨w.heap.size + 1, 0, none⟩) (by simp) (.bool false))
    generalize (((X.setCell ⟨w.heap.size, 0, none⟩ (.int .i64 0)).setCell ⟨w.heap.size, 1, none⟩ (.int .i64 0)).setCell ⟨w.heap.size, 2, none⟩ (.int .i64 0)).setCell ⟨w.heap.size + 1, 0, none⟩ (.bool false) = Wf at *
    have hne : ∀ q : Addr, q.block < W5.heap.size → (Wf.putObj W5.heap.size (.deferred none)).cell? q = Wf.cell? q := fun q hq => World.cell?_of_block (World.putObj_heap_other (by omega))
    have q0 := (hne ⟨w.heap.size, 0, none⟩ (by dsimp only; omega)).trans (hf4.cell 0)
    have q1 := (hne ⟨w.heap.size, 1, none⟩ (by dsimp only; omega)).trans (hf4.cell 1)
    have q2 := (hne ⟨w.heap.size, 2, none⟩ (by dsimp only; omega)).trans (hf4.cell 2)
    have q3 := (hne ⟨w.heap.size + 1, 0, none⟩ (by dsimp only; omega)).trans (hg4.cell 0)
    refine ⟨.tuple #[.agg #[.int .i64 0, .int .i64 0, .int .i64 0], .bool false], by simp [results, Try.results12, go_sem, q0, q1, q2, q3], by rw [HV.out]; rfl, ?_⟩
    exact hbw.trans ⟨rfl, rfl, rfl, by simp, fun k hk => World.putObj_heap_other (by omega)⟩
  case stop =>
    rintro c pre X _ ⟨rfl, ⟨p, h1, h2, h3, h4, h5⟩, h6, h7⟩ hD
    gi_wp2
    refine ⟨by simp, .inl ⟨_, _, rfl, run_takeDeferred hD, ?_⟩⟩
    have hne : ∀ q : Addr, q.block < W5.heap.size → (X.putObj W5.heap.size (.deferred none)).cell? q = X.cell? q := fun q hq => World.cell?_of_block (World.putObj_heap_other (by omega))
    have q0 := (hne ⟨w.heap.size, 0, none⟩ (by dsimp only; omega)).trans h2
    have q1 := (hne ⟨w.heap.size, 1, none⟩ (by dsimp only; omega)).trans h3
    have q2 := (hne ⟨w.heap.size, 2, none⟩ (by dsimp only; omega)).trans h4
    have q3 := (hne ⟨w.heap.size + 1, 0, none⟩ (by dsimp only; omega)).trans h5
    refine ⟨.tuple #[.agg #[.int .i64 12, .int .i64 (p.1 : Int), .int .i64 (p.2 : Int)], .bool true], by simp [results, Try.results12, go_sem, q0, q1, q2, q3], by rw [h1]; rfl, ?_⟩
    exact h6.trans ⟨rfl, rfl, rfl, by simp, fun k hk => World.putObj_heap_other (by omega)⟩
end Go.Proofs.Ytmabenffdpipmaa.By
