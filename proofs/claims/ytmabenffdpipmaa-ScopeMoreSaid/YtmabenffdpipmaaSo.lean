/-
  WALK of layer 23: Check.
-/
import Derived.Test.YtmabenffdpipmaaSn
namespace Go.Proofs.Ytmabenffdpipmaa.By
open Go.RowKit Go.Maps
open Mem Rf
set_option linter.unusedSimpArgs false
set_option linter.unusedVariables false
attribute [local go_sem] Oper.semAt_some

def chkE (r : Int × Int × Int) : Value := .agg #[.int .i64 r.1, .int .i64 r.2.1, .int .i64 r.2.2]
def okTo (L : List (List Sy)) (gs : List Gs) : Prop := ∀ x ∈ gs, (boundAt L x.1).2 = 0
theorem loose_first {L : List (List Sy)} {pre : List Gs} {x : Gs} (h : pre ++ [x] <+: allS L) (h1 : okTo L pre) (h2 : (boundAt L x.1).2 ≠ 0) : looseV L = some x.1 := by
  unfold looseV
  rw [find_first h (fun y hy => by simpa using h1 y hy) (by simpa using h2)]; rfl
theorem okTo_snoc {L : List (List Sy)} {pre : List Gs} {x : Gs} (h1 : okTo L pre) (h2 : (boundAt L x.1).2 = 0) : okTo L (pre ++ [x]) := fun y hy => by
  rcases List.mem_append.1 hy with hy | hy
  · exact h1 y hy
  · obtain rfl := List.mem_singleton.1 hy; exact h2
theorem loose_all {L : List (List Sy)} (h : okTo L (allS L)) : looseV L = none := by
  unfold looseV
  rw [Option.map_eq_none_iff, List.find?_eq_none]
  intro x hx
  simpa using h x hx
theorem check_many {L : List (List Sy)} (h : L.length = 0 ∨ 6 < L.length) : checkV L = (19, -1, -1) := by unfold checkV; rw [if_pos h]
theorem check_twice {L : List (List Sy)} {p : Pl} (h : ¬ (L.length = 0 ∨ 6 < L.length)) (h1 : twiceV L = some p) : checkV L = (12, (p.1 : Int), (p.2 : Int)) := by unfold checkV; rw [if_neg h, h1]
theorem check_loose {L : List (List Sy)} {p : Pl} (h : ¬ (L.length = 0 ∨ 6 < L.length)) (h1 : twiceV L = none) (h2 : looseV L = some p) : checkV L = ((boundAt L p).2, (p.1 : Int), (p.2 : Int)) := by unfold checkV; rw [if_neg h, h1, h2]
theorem check_fine {L : List (List Sy)} (h : ¬ (L.length = 0 ∨ 6 < L.length)) (h1 : twiceV L = none) (h2 : looseV L = none) : checkV L = (0, 0, 0) := by unfold checkV; rw [if_neg h, h1, h2]

/-- What Twice tells, by letters. -/
theorem rejE_form (L : List (List Sy)) (h : ¬ (L.length = 0 ∨ 6 < L.length)) : ∃ (ta tb tc : Int) (tt : Bool), rejE (twiceV L) = .tuple #[.agg #[.int .i64 ta, .int .i64 tb, .int .i64 tc], .bool tt] ∧ (tt = true → checkV L = (ta, tb, tc)) ∧ (tt = false → twiceV L = none) := by
  cases ht : twiceV L with
  | some p => exact ⟨12, p.1, p.2, true, rfl, fun _ => check_twice h ht, fun h => by cases h⟩
  | none => exact ⟨0, 0, 0, false, rfl, fun h => (by cases h), fun _ => rfl⟩

theorem one_cell {V0 X : World} {a b : Nat} (hcl : ∀ p, X.cell? p = (V0.alloc (.cells #[.int .i64 (a : Int), .int .i64 (b : Int)] 46)).cell? p) :
    X.cell? ⟨V0.heap.size, 0, none⟩ = some (.int .i64 (a : Int)) ∧ X.cell? ⟨V0.heap.size, 1, none⟩ = some (.int .i64 (b : Int)) := by
  have hb1 : Blk (V0.alloc (.cells #[.int .i64 (a : Int), .int .i64 (b : Int)] 46)) V0.heap.size 46 #[.int .i64 (a : Int), .int .i64 (b : Int)] := Blk.new V0 _ _
  exact ⟨by rw [hcl, hb1.cell]; rfl, by rw [hcl, hb1.cell]; rfl⟩

set_option maxRecDepth 100000 in
set_option maxHeartbeats 4000000 in
theorem check_any (A : Option Addr) (n c B : Nat) (os : List Ob) (w : World) (hO : ObL w B A n c os) (hB : B ≤ w.heap.size) (hN : NmP os) :
    Calls Try.prog 14 #[.slice A n c] w fun e w' => e = .returned (chkE (checkV (lists os))) ∧ Below w.heap.size w w' := by
  have hL : (lists os).length = n := by rw [lists_length, hO.1.1]
  have hn := hO.1.few
  obtain ⟨W1, hW1⟩ : ∃ W1, w.alloc (.cells #[.slice A n c] 22) = W1 := ⟨_, rfl⟩
  obtain ⟨W2, hW2⟩ : ∃ W2, W1.alloc (.cells #[.int .i64 0, .int .i64 0, .int .i64 0] 31) = W2 := ⟨_, rfl⟩
  have hs1 : W1.heap.size = w.heap.size + 1 := by rw [← hW1]; simp
  have hs2 : W2.heap.size = w.heap.size + 2 := by rw [← hW2]; simp [hs1]
  have hb1 : Below w.heap.size w W1 := hW1 ▸ (Below.refl _ _).alloc (Nat.le_refl _) _
  have hb2 : Below w.heap.size w W2 := hW2 ▸ hb1.alloc (by omega) _
  have hlb : Blk W2 w.heap.size 22 #[.slice A n c] := hW2 ▸ (hW1 ▸ Blk.new w _ _ : Blk W1 w.heap.size _ _).alloc _
  have hrb : Blk W2 (w.heap.size + 1) 31 #[.int .i64 0, .int .i64 0, .int .i64 0] := by
    have := Blk.new W1 31 #[.int .i64 0, .int .i64 0, .int .i64 0]
    rwa [hs1, hW2] at this
  have l0 : W2.cell? ⟨w.heap.size, 0, none⟩ = some (.slice A n c) := hlb.cell 0
  have r0 : W2.cell? ⟨w.heap.size + 1, 0, none⟩ = some (.int .i64 0) := hrb.cell 0
  have r1 : W2.cell? ⟨w.heap.size + 1, 1, none⟩ = some (.int .i64 0) := hrb.cell 1
  have r2 : W2.cell? ⟨w.heap.size + 1, 2, none⟩ = some (.int .i64 0) := hrb.cell 2
  have HLB := Lib.hid hlb
  have HRB := Lib.hid hrb
  have HB2 := Lib.hid hb2
  by_cases hmany : n = 0 ∨ 6 < n
  · have HV := Lib.hid (check_many (L := lists os) (by rw [hL]; exact hmany))
    have HJ := Lib.hid (reject_any 19 (-1) (-1) W2)
    have hm1 : decide ((n : Int) = 0) = true ∨ (((n : Int) == 0) = false ∧ (6 : Int) < (n : Int)) := by
      rcases hmany with h | h
      · exact .inl (by simp [h])
      · exact .inr ⟨by simp; omega, by omega⟩
    rw [HV.out]
    clear hO hN hmany hlb hrb hb1 hb2 hL
    go_enter Try.func14, Try.ntmps14
    rcases hm1 with h | ⟨h, h6⟩
    · have h' : ((n : Int) == 0) = true := by simpa using h
      clear h
      go_wp2_with (go_at_call 22; refine HJ.out.mono ?_; rintro e w3 ⟨rfl, hb3⟩; unfold rejV; have hr3 := HRB.out.below hb3 HRB.out.lt; have q0 : w3.cell? ⟨w.heap.size + 1, 0, none⟩ = some (.int .i64 0) := hr3.cell 0; have q1 : w3.cell? ⟨w.heap.size + 1, 1, none⟩ = some (.int .i64 0) := hr3.cell 1; have q2 : w3.cell? ⟨w.heap.size + 1, 2, none⟩ = some (.int .i64 0) := hr3.cell 2; have f0 := hr3.frozen 0; have f1 := hr3.frozen 1; have f2 := hr3.frozen 2; have HR3 := Lib.hid hr3; have HB3 := Lib.hid hb3; clear hr3 hb3)
      have hf3 : Blk (((w3.setCell ⟨w.heap.size + 1, 0, none⟩ (.int .i64 19)).setCell ⟨w.heap.size + 1, 1, none⟩ (.int .i64 (-1))).setCell ⟨w.heap.size + 1, 2, none⟩ (.int .i64 (-1))) (w.heap.size + 1) 31 #[.int .i64 19, .int .i64 (-1), .int .i64 (-1)] := ((HR3.out.stored 0 _).stored 1 _).stored 2 _
      have c0 := hf3.cell 0
      have c1 := hf3.cell 1
      have c2 := hf3.cell 2
      refine bodyPost_ret (v := .agg #[.int .i64 19, .int .i64 (-1), .int .i64 (-1)]) (by simp [results, Try.results14, go_sem, c0, c1, c2]) rfl ⟨rfl, ?_⟩
      exact (((HB2.out.trans (HB3.out.mono HB2.out.size)).setCell (p := ⟨w.heap.size + 1, 0, none⟩) (by simp) _).setCell (p := ⟨w.heap.size + 1, 1, none⟩) (by simp) _).setCell (p := ⟨w.heap.size + 1, 2, none⟩) (by simp) _
    · go_wp2_with (go_at_call 22; refine HJ.out.mono ?_; rintro e w3 ⟨rfl, hb3⟩; unfold rejV; have hr3 := HRB.out.below hb3 HRB.out.lt; have q0 : w3.cell? ⟨w.heap.size + 1, 0, none⟩ = some (.int .i64 0) := hr3.cell 0; have q1 : w3.cell? ⟨w.heap.size + 1, 1, none⟩ = some (.int .i64 0) := hr3.cell 1; have q2 : w3.cell? ⟨w.heap.size + 1, 2, none⟩ = some (.int .i64 0) := hr3.cell 2; have f0 := hr3.frozen 0; have f1 := hr3.frozen 1; have f2 := hr3.frozen 2; have HR3 := Lib.hid hr3; have HB3 := Lib.hid hb3; clear hr3 hb3)
      have hf3 : Blk (((w3.setCell ⟨w.heap.size + 1, 0, none⟩ (.int .i64 19)).setCell ⟨w.heap.size + 1, 1, none⟩ (.int .i64 (-1))).setCell ⟨w.heap.size + 1, 2, none⟩ (.int .i64 (-1))) (w.heap.size + 1) 31 #[.int .i64 19, .int .i64 (-1), .int .i64 (-1)] := ((HR3.out.stored 0 _).stored 1 _).stored 2 _
      have c0 := hf3.cell 0
      have c1 := hf3.cell 1
      have c2 := hf3.cell 2
      refine bodyPost_ret (v := .agg #[.int .i64 19, .int .i64 (-1), .int .i64 (-1)]) (by simp [results, Try.results14, go_sem, c0, c1, c2]) rfl ⟨rfl, ?_⟩
      exact (((HB2.out.trans (HB3.out.mono HB2.out.size)).setCell (p := ⟨w.heap.size + 1, 0, none⟩) (by simp) _).setCell (p := ⟨w.heap.size + 1, 1, none⟩) (by simp) _).setCell (p := ⟨w.heap.size + 1, 2, none⟩) (by simp) _
  · have hm0 : ((n : Int) == 0) = false := by simp; omega
    have hm6 : ¬ (6 : Int) < (n : Int) := by omega
    have HMA := Lib.hid (show ¬ ((lists os).length = 0 ∨ 6 < (lists os).length) by rw [hL]; exact hmany)
    obtain ⟨ta, tb, tc, tt, hte, htt, htf⟩ := rejE_form (lists os) HMA.out
    have hTW := twice_any A n c B os W2 (hO.below (hb2.mono hB)) (Nat.le_trans hB hb2.size) hN
    rw [hte] at hTW
    have HTW := Lib.hid hTW
    have HTT := Lib.hid htt
    have HTF := Lib.hid htf
    have HFI := Lib.hid (fun X (hb : Below w.heap.size w X) => firsts_any A n c B os X (hO.below (hb.mono hB)) (Nat.le_trans hB hb.size) hN.names hN.many)
    have HBD := Lib.hid (fun X m mk (hb : Below w.heap.size w X) hm i k hi hk hnm => bound_in A n c B os m mk X (hO.below (hb.mono hB)) (Nat.le_trans hB hb.size) hm i k hi hk hnm)
    have HT := Lib.hid (fun (X : World) (hX : Below w.heap.size w X) => symbols_tells 3 X.heap.size B A n c os (X.alloc (.cells #[.slice A n c] 22)) ((Blk.new X _ _).cell 0) ((hO.below (hX.mono hB)).below ((Below.refl B X).alloc (Nat.le_trans hB hX.size) _)) (by have := hX.size; simp; omega))
    have HPL := Lib.hid (show ∀ a b s, ((a, b), s) ∈ allS (lists os) → a < n ∧ b < (obAt os a).n ∧ (syAt (obAt os a).l b).1.size ≤ maxLen from fun a b s h => by
      obtain ⟨h1, h2, h3⟩ := mem_allS h
      dsimp only at h1 h2 h3
      rw [hL] at h1
      have hr : rowS (lists os) a = (obAt os a).l := rowS_lists (by rw [hO.1.1]; exact h1)
      rw [hr, (hO.2 a h1).1] at h2
      refine ⟨h1, h2, ?_⟩
      have := hN.names _ h
      dsimp only at this
      rw [h3] at this
      unfold atS at this
      rwa [hr] at this)
    have HB := Lib.hid hB
    generalize lists os = L at *
    clear hO hN hmany hlb hrb hb1 hb2 hL hte hTW htt htf hB
    refine (callsIn_wide (n := 4)).1 ?_
    refine callsIn_of_wp_marks Try.func14 rfl trivial ?_ rfl
    simp only [Try.ntmps14, List.size_toArray, List.length_cons, List.length_nil, Nat.reduceAdd, Nat.reduceSub, Array.replicate_succ, Array.replicate_zero, List.push_toArray, List.append_toArray, List.nil_append, List.cons_append]
    gi_wp2_with (refine ⟨trivial, ?_⟩; gi_at_call 12; refine (callsIn_wide.2 HTW.out).mono ?_; rintro e w3 ⟨rfl, hb3⟩; obtain ⟨W4, hW4⟩ : ∃ W4, w3.alloc (.cells #[.int .i64 ta, .int .i64 tb, .int .i64 tc] 31) = W4 := ⟨_, rfl⟩; have h24 : Below W2.heap.size W2 W4 := hW4 ▸ hb3.alloc hb3.size _; have htb : Blk W4 w3.heap.size 31 #[.int .i64 ta, .int .i64 tb, .int .i64 tc] := hW4 ▸ Blk.new _ _ _; have hs4 : W4.heap.size = w3.heap.size + 1 := (by rw [← hW4]; simp); have hl4 := HLB.out.below h24 HLB.out.lt; have hr4 := HRB.out.below h24 HRB.out.lt; have a0 : W4.cell? ⟨w3.heap.size, 0, none⟩ = some (.int .i64 ta) := htb.cell 0; have a1 : W4.cell? ⟨w3.heap.size, 1, none⟩ = some (.int .i64 tb) := htb.cell 1; have a2 : W4.cell? ⟨w3.heap.size, 2, none⟩ = some (.int .i64 tc) := htb.cell 2; have b0 : W4.cell? ⟨w.heap.size, 0, none⟩ = some (.slice A n c) := hl4.cell 0; have q0 : W4.cell? ⟨w.heap.size + 1, 0, none⟩ = some (.int .i64 0) := hr4.cell 0; have q1 : W4.cell? ⟨w.heap.size + 1, 1, none⟩ = some (.int .i64 0) := hr4.cell 1; have q2 : W4.cell? ⟨w.heap.size + 1, 2, none⟩ = some (.int .i64 0) := hr4.cell 2; have f0 := hr4.frozen 0; have f1 := hr4.frozen 1; have f2 := hr4.frozen 2; have H24 := Lib.hid h24; have HL4 := Lib.hid hl4; have HR4 := Lib.hid hr4; clear hb3 h24 htb hl4 hr4; cases tt)
    rotate_left
    · have hf3 : Blk (((W4.setCell ⟨w.heap.size + 1, 0, none⟩ (.int .i64 ta)).setCell ⟨w.heap.size + 1, 1, none⟩ (.int .i64 tb)).setCell ⟨w.heap.size + 1, 2, none⟩ (.int .i64 tc)) (w.heap.size + 1) 31 #[.int .i64 ta, .int .i64 tb, .int .i64 tc] := ((HR4.out.stored 0 _).stored 1 _).stored 2 _
      have c0 := hf3.cell 0
      have c1 := hf3.cell 1
      have c2 := hf3.cell 2
      refine ⟨.agg #[.int .i64 ta, .int .i64 tb, .int .i64 tc], by simp [results, Try.results14, go_sem, c0, c1, c2], by rw [HTT.out (by trivial)]; rfl, ?_⟩
      exact (((HB2.out.trans (H24.out.mono HB2.out.size)).setCell (p := ⟨w.heap.size + 1, 0, none⟩) (by simp) _).setCell (p := ⟨w.heap.size + 1, 1, none⟩) (by simp) _).setCell (p := ⟨w.heap.size + 1, 2, none⟩) (by simp) _
    have HTN := Lib.hid (HTF.out (by trivial))
    have hb4 : Below w.heap.size w W4 := HB2.out.trans (H24.out.mono HB2.out.size)
    have HFX := Lib.hid (HFI.out W4 hb4)
    have HB4 := Lib.hid hb4
    clear hb4 HTW
    gi_wp2_with (first | (refine ⟨trivial, ?_⟩; gi_at_call 17; refine (callsIn_wide.2 HFX.out).mono ?_; rintro e w5 ⟨m, mk, rfl, hm, hmp, hb5⟩; obtain ⟨W6, hW6⟩ : ∃ W6, w5.alloc (.cells #[.map (some m)] 48) = W6 := ⟨_, rfl⟩; have h46 : Below W4.heap.size W4 W6 := hW6 ▸ hb5.alloc hb5.size _; have hl6 := HL4.out.below h46 HL4.out.lt; have c0 : W6.cell? ⟨w.heap.size, 0, none⟩ = some (.slice A n c) := hl6.cell 0; have HL6 := Lib.hid hl6; have HR6 := Lib.hid (HR4.out.below h46 HR4.out.lt); have HM := Lib.hid hm; have HMP := Lib.hid hmp; have HB5 := Lib.hid hb5; have H46 := Lib.hid h46; clear hm hmp hb5 h46 hl6) | (refine ⟨trivial, ?_⟩; gi_at_call 23; refine (callsIn_wide.2 (symbols_any _ _ _ _)).mono ?_; rintro e w7 ⟨rfl, rfl⟩))
    obtain ⟨W7, hW7⟩ : ∃ W7, W6.alloc (.cells #[.slice A n c] 22) = W7 := ⟨_, rfl⟩
    have hs6 : W6.heap.size = w5.heap.size + 1 := by rw [← hW6]; simp
    have hs7 : W7.heap.size = w5.heap.size + 2 := by rw [← hW7]; simp [hs6]
    have hb6 : Below w.heap.size w W6 := HB4.out.trans (H46.out.mono HB4.out.size)
    have hb7 : Below w.heap.size w W7 := hW7 ▸ hb6.alloc hb6.size _
    have h57 : Below w5.heap.size w5 W7 := hW7 ▸ (hW6 ▸ (Below.refl _ w5).alloc (Nat.le_refl _) _ : Below w5.heap.size w5 W6).alloc (by omega) _
    have h67 : Below W6.heap.size W6 W7 := hW7 ▸ (Below.refl _ W6).alloc (Nat.le_refl _) _
    have hmp7 : Mp W7 m mk (findV L) := HMP.out.below h57 HMP.out.lt
    have hbx7 : W7.cell? ⟨w5.heap.size, 0, none⟩ = some (.map (some m)) := by rw [← hW7, ← hW6]; exact ((Blk.new w5 _ _).alloc _).cell 0
    have hl7 := HL6.out.below h67 HL6.out.lt
    have hr7 := HR6.out.below h67 HR6.out.lt
    have hsz5 : w.heap.size + 2 ≤ w5.heap.size := by have := HB5.out.size; have := H24.out.size; omega
    have hml := HMP.out.lt
    have HTA := Lib.hid (HT.out W6 hb6)
    rw [hW7] at HTA
    have hBs := HB.out
    have hm0' : w.heap.size ≤ m := by have := HM.out; have := HB4.out.size; omega
    rw [hW7]
    clear HT hb6 h57 h67
    refine wpIn_rangeX rfl (by decide) (gf := 28) (lb := #[.pointer (some ⟨W6.heap.size, 0, none⟩)]) rfl trivial (enters_of Try.func28 (by kernel_rfl) rfl) HTA.out (Below.refl _ _) (fun _ => rfl)
      (fun k => k < W7.heap.size) (fun k h h' => by unfold Two at h; omega) (fun k h => trivial) (fun k h => trivial) (by omega)
      (fun pre X => (okTo L pre ∧ Mp X m mk (findV L) ∧ X.cell? ⟨w5.heap.size, 0, none⟩ = some (.map (some m))) ∧ (Blk X w.heap.size 22 #[.slice A n c] ∧ Blk X (w.heap.size + 1) 31 #[.int .i64 0, .int .i64 0, .int .i64 0]) ∧ Below w.heap.size w X ∧ W7.heap.size ≤ X.heap.size)
      (fun c pre X => c = .ret ∧ (∃ p : Pl, looseV L = some p ∧ X.cell? ⟨w.heap.size + 1, 0, none⟩ = some (.int .i64 (boundAt L p).2) ∧ X.cell? ⟨w.heap.size + 1, 1, none⟩ = some (.int .i64 (p.1 : Int)) ∧ X.cell? ⟨w.heap.size + 1, 2, none⟩ = some (.int .i64 (p.2 : Int))) ∧ Below w.heap.size w X ∧ W7.heap.size ≤ X.heap.size)
      (fun s X Y ⟨⟨h1, h2, h3⟩, ⟨h4, h5⟩, h6, h7⟩ hk => ⟨⟨h1, h2.block (hk.block _ (by omega) h2.lt), hk.cell (by show w5.heap.size < W7.heap.size; omega) h3⟩, ⟨(hk.block _ (by omega) h4.lt).trans h4, (hk.block _ (by omega) h5.lt).trans h5⟩, h6.trans (hk.below (by omega) fun k hk1 => by omega), Nat.le_trans h7 hk.size⟩)
      (fun c s X Y ⟨h0, ⟨p, h1, h2, h3, h4⟩, h6, h7⟩ hk hcl => ⟨h0, ⟨p, h1, by rw [hcl]; exact h2, by rw [hcl]; exact h3, by rw [hcl]; exact h4⟩, h6.trans (hk.below (by omega) fun k hk1 => by omega), Nat.le_trans h7 hk.size⟩)
      ⟨⟨fun x hx => absurd hx (by simp), hmp7, hbx7⟩, ⟨hl7, hr7⟩, hb7, Nat.le_refl _⟩
      (fun x X => { tmps := #[.slice A n c, .pointer (some ⟨w.heap.size, 0, none⟩), .pointer (some ⟨w.heap.size + 1, 0, none⟩), .pointer (some ⟨w3.heap.size, 0, none⟩), .bool false, .pointer (some ⟨w5.heap.size, 0, none⟩), .pointer (some ⟨X.heap.size, 0, none⟩), undef, undef, .slice A n c, .int .i64 (n : Int), .bool false, .bool false, .slice A n c, .int .i64 (n : Int), .bool false, .bool false, undef, undef, .tuple #[.agg #[.int .i64 ta, .int .i64 tb, .int .i64 tc], .bool false], .slice A n c, .tuple #[.agg #[.int .i64 ta, .int .i64 tb, .int .i64 tc], .bool false], .agg #[.int .i64 ta, .int .i64 tb, .int .i64 tc], .bool false, .bool false, undef, .slice A n c, .map (some m), .slice A n c, .func (.func 28) #[] #[.pointer (some ⟨w5.heap.size + 1, 0, none⟩)], plV x.1, syV x.2, undef, undef, undef, undef, undef, undef, undef, undef, undef, undef, undef, undef, undef], defers := [] })
      (fun x X => X.alloc (.cells #[.int .i64 (x.1.1 : Int), .int .i64 (x.1.2 : Int)] 46))
      (fun x X => (Keeps.refl _ X).alloc _) ?assign ?body ?done ?stop
    case assign =>
      rintro l1 ⟨⟨a, b⟩, y0, y1, y2, y3, y4⟩ X K hK
      unfold gsE plV syV
      unfold plV syV at hK
      dsimp only at hK ⊢
      gi_wp2
      exact hK
    case body =>
      rintro l1 pre ⟨⟨a, b⟩, y0, y1, y2, y3, y4⟩ V0 X ⟨⟨hno, hmp, hbx⟩, ⟨hlb, hrb⟩, hbel, hsz1⟩ hpre hsz hk hcl
      unfold plV syV
      dsimp only at hk hcl ⊢
      obtain ⟨p0, p1⟩ := one_cell hcl
      have HLT := Lib.hid (show ∀ k, (k < B ∨ Two W7.heap.size k) → k < X.heap.size from fun k h => by have h9 := hk.size; simp at h9; unfold Two at h; omega)
      have c0 : X.cell? ⟨w.heap.size, 0, none⟩ = some (.slice A n c) := hlb.cell 0
      obtain ⟨h1, h2, h3⟩ := HPL.out a b (y0, y1, y2, y3, y4) (hpre.subset (by simp))
      have hc := HBD.out X m mk hbel hmp a b h1 h2 h3
      have HNO := Lib.hid (fun e => okTo_snoc (x := ((a, b), y0, y1, y2, y3, y4)) hno e)
      have HLF := Lib.hid (fun e => loose_first (x := ((a, b), y0, y1, y2, y3, y4)) hpre hno e)
      dsimp only at HNO HLF
      obtain ⟨r, hr⟩ : ∃ r, boundAt L (a, b) = r := ⟨_, rfl⟩
      have HBA := Lib.hid hr
      rw [hr] at hc HNO HLF
      obtain ⟨⟨ra, rb⟩, re⟩ := r
      unfold bndE plV at hc
      dsimp only at hc HNO HLF
      have HC := Lib.hid hc
      have HMX := Lib.hid hmp
      have HBX := Lib.hid hbx
      have HLX := Lib.hid hlb
      have HRX := Lib.hid hrb
      have HBE := Lib.hid hbel
      clear hk hcl hno hpre hmp hlb hrb hbel hr hc h1 h2 h3
      by_cases e0 : re = 0
      · have e0' : (re != 0) = false := by simp [e0]
        have HO := Lib.hid (HNO.out e0)
        clear e0
        gi_wp2_with (refine ⟨trivial, ?_⟩; gi_at_call 20; refine (CallsIn.inRound l1 (callsIn_wide.2 HC.out)).mono ?_; rintro e w8 ⟨rfl, hb8⟩; obtain ⟨w9, hw9⟩ : ∃ w9, w8.alloc (.cells #[.int .i64 (ra : Int), .int .i64 (rb : Int)] 46) = w9 := ⟨_, rfl⟩; have hb9 : Below X.heap.size X w9 := hw9 ▸ hb8.alloc hb8.size _; have p90 := (hb9.cell (World.block_lt_of_cell? _ _ p0)).trans p0; have p91 := (hb9.cell (World.block_lt_of_cell? _ _ p1)).trans p1; have HB9 := Lib.hid hb9; clear hb8 hb9)
        refine ⟨Keeps.of_below HB9.out fun k h _ => HLT.out k h, ⟨HO.out, HMX.out.below HB9.out HMX.out.lt, (HB9.out.cell (World.block_lt_of_cell? _ _ HBX.out)).trans HBX.out⟩, ⟨HLX.out.below HB9.out HLX.out.lt, HRX.out.below HB9.out HRX.out.lt⟩, HBE.out.trans (HB9.out.mono HBE.out.size), ?_⟩
        have := HB9.out.size; omega
      · have e0' : (re != 0) = true := by simp [e0]
        have HV := Lib.hid (HLF.out e0)
        clear e0
        gi_wp2_with (first | (refine ⟨trivial, ?_⟩; gi_at_call 20; refine (CallsIn.inRound l1 (callsIn_wide.2 HC.out)).mono ?_; rintro e w8 ⟨rfl, hb8⟩; obtain ⟨w9, hw9⟩ : ∃ w9, w8.alloc (.cells #[.int .i64 (ra : Int), .int .i64 (rb : Int)] 46) = w9 := ⟨_, rfl⟩; have hb9 : Below X.heap.size X w9 := hw9 ▸ hb8.alloc hb8.size _; have p90 := (hb9.cell (World.block_lt_of_cell? _ _ p0)).trans p0; have p91 := (hb9.cell (World.block_lt_of_cell? _ _ p1)).trans p1; have HB9 := Lib.hid hb9; clear hb8 hb9) | (refine ⟨trivial, ?_⟩; gi_at_call 22; refine (CallsIn.inRound l1 (callsIn_wide.2 (reject_any _ _ _ _))).mono ?_; rintro e w10 ⟨rfl, hb10⟩; unfold rejV; have h10 : Below X.heap.size X w10 := HB9.out.trans (hb10.mono HB9.out.size); have hr10 := HRX.out.below h10 HRX.out.lt; have q0 : w10.cell? ⟨w.heap.size + 1, 0, none⟩ = some (.int .i64 0) := hr10.cell 0; have q1 : w10.cell? ⟨w.heap.size + 1, 1, none⟩ = some (.int .i64 0) := hr10.cell 1; have q2 : w10.cell? ⟨w.heap.size + 1, 2, none⟩ = some (.int .i64 0) := hr10.cell 2; have f0 := hr10.frozen 0; have f1 := hr10.frozen 1; have f2 := hr10.frozen 2; have HR10 := Lib.hid hr10; have H10 := Lib.hid h10; clear hb10 h10 hr10))
        have hf3 : Blk (((w10.setCell ⟨w.heap.size + 1, 0, none⟩ (.int .i64 re)).setCell ⟨w.heap.size + 1, 1, none⟩ (.int .i64 (a : Int))).setCell ⟨w.heap.size + 1, 2, none⟩ (.int .i64 (b : Int))) (w.heap.size + 1) 31 #[.int .i64 re, .int .i64 (a : Int), .int .i64 (b : Int)] := ((HR10.out.stored 0 _).stored 1 _).stored 2 _
        have hnu : ∀ k, k < w.heap.size + 2 → ¬ (W7.heap.size + 2 ≤ k ∨ Two W7.heap.size k) := fun k hk h => by unfold Two at h; omega
        refine ⟨(((Keeps.of_below H10.out fun k _ h => h).setCell (p := ⟨w.heap.size + 1, 0, none⟩) (hnu _ (by simp)) _).setCell (p := ⟨w.heap.size + 1, 1, none⟩) (hnu _ (by simp)) _).setCell (p := ⟨w.heap.size + 1, 2, none⟩) (hnu _ (by simp)) _, rfl, ⟨_, HV.out, by rw [HBA.out]; exact hf3.cell 0, hf3.cell 1, hf3.cell 2⟩, ?_, ?_⟩
        · exact ((HBE.out.trans (H10.out.mono HBE.out.size)).setCell (p := ⟨w.heap.size + 1, 0, none⟩) (by simp) _).setCell (p := ⟨w.heap.size + 1, 1, none⟩) (by simp) _ |>.setCell (p := ⟨w.heap.size + 1, 2, none⟩) (by simp) _
        · have := H10.out.size
          simp [World.setCell]; omega
    case done =>
      rintro X ⟨⟨hno, hmp, hbx⟩, ⟨hlb, hrb⟩, hbel, hsz1⟩ hD
      have HV := Lib.hid (check_fine HMA.out HTN.out (loose_all hno))
      have HBE := Lib.hid hbel
      have HR := Lib.hid hrb
      have q0 : X.cell? ⟨w.heap.size + 1, 0, none⟩ = some (.int .i64 0) := hrb.cell 0
      have q1 : X.cell? ⟨w.heap.size + 1, 1, none⟩ = some (.int .i64 0) := hrb.cell 1
      have q2 : X.cell? ⟨w.heap.size + 1, 2, none⟩ = some (.int .i64 0) := hrb.cell 2
      have f0 := hrb.frozen 0
      have f1 := hrb.frozen 1
      have f2 := hrb.frozen 2
      clear hno hmp hlb hrb hbel
      gi_wp2
      refine ⟨by simp, .inl ⟨_, _, rfl, run_takeDeferred (b := W7.heap.size) ?hd, ?_⟩⟩
      case hd =>
        rw [Below.heap_setCell _ _ _ _ (by dsimp only; omega), Below.heap_setCell _ _ _ _ (by dsimp only; omega), Below.heap_setCell _ _ _ _ (by dsimp only; omega)]
        exact hD
      have hf3 : Blk (((X.setCell ⟨w.heap.size + 1, 0, none⟩ (.int .i64 0)).setCell ⟨w.heap.size + 1, 1, none⟩ (.int .i64 0)).setCell ⟨w.heap.size + 1, 2, none⟩ (.int .i64 0)) (w.heap.size + 1) 31 #[.int .i64 0, .int .i64 0, .int .i64 0] := ((HR.out.stored 0 _).stored 1 _).stored 2 _
      have hbw := ((HBE.out.setCell (p := ⟨w.heap.size + 1, 0, none⟩) (by simp) (.int .i64 0)).setCell (p := ⟨w.heap.size + 1, 1, none⟩) (by simp) (.int .i64 0)).setCell (p := ⟨w.heap.size + 1, 2, none⟩) (by simp) (.int .i64 0)
      generalize ((X.setCell ⟨w.heap.size + 1, 0, none⟩ (.int .i64 0)).setCell ⟨w.heap.size + 1, 1, none⟩ (.int .i64 0)).setCell ⟨w.heap.size + 1, 2, none⟩ (.int .i64 0) = Wf at *
      have hne : ∀ q : Addr, q.block < W7.heap.size → (Wf.putObj W7.heap.size (.deferred none)).cell? q = Wf.cell? q := fun q hq => World.cell?_of_block (World.putObj_heap_other (by omega))
      have c0 := (hne ⟨w.heap.size + 1, 0, none⟩ (by dsimp only; omega)).trans (hf3.cell 0)
      have c1 := (hne ⟨w.heap.size + 1, 1, none⟩ (by dsimp only; omega)).trans (hf3.cell 1)
      have c2 := (hne ⟨w.heap.size + 1, 2, none⟩ (by dsimp only; omega)).trans (hf3.cell 2)
      refine ⟨.agg #[.int .i64 0, .int .i64 0, .int .i64 0], by simp [results, Try.results14, go_sem, c0, c1, c2], by rw [HV.out]; rfl, ?_⟩
      exact hbw.trans ⟨rfl, rfl, rfl, by simp, fun k hk => World.putObj_heap_other (by omega)⟩
    case stop =>
      rintro c pre X _ ⟨rfl, ⟨p, h1, h2, h3, h4⟩, h6, h7⟩ hD
      gi_wp2
      refine ⟨by simp, .inl ⟨_, _, rfl, run_takeDeferred hD, ?_⟩⟩
      have hne : ∀ q : Addr, q.block < W7.heap.size → (X.putObj W7.heap.size (.deferred none)).cell? q = X.cell? q := fun q hq => World.cell?_of_block (World.putObj_heap_other (by omega))
      have c0 := (hne ⟨w.heap.size + 1, 0, none⟩ (by dsimp only; omega)).trans h2
      have c1 := (hne ⟨w.heap.size + 1, 1, none⟩ (by dsimp only; omega)).trans h3
      have c2 := (hne ⟨w.heap.size + 1, 2, none⟩ (by dsimp only; omega)).trans h4
      refine ⟨.agg #[.int .i64 (boundAt L p).2, .int .i64 (p.1 : Int), .int .i64 (p.2 : Int)], by simp [results, Try.results14, go_sem, c0, c1, c2], by rw [check_loose HMA.out HTN.out h1]; rfl, ?_⟩
      exact h6.trans ⟨rfl, rfl, rfl, by simp, fun k hk => World.putObj_heap_other (by omega)⟩
end Go.Proofs.Ytmabenffdpipmaa.By
