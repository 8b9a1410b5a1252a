/-
  WALKS of layer 23: the document's Twice and Check.
-/
import Derived.Test.YtmabenffdpipmaaSh
import Derived.Test.YtmabenffdpipmaaSj
namespace Go.Proofs.Ytmabenffdpipmaa.By
open Go.RowKit
open Mem Rf
set_option linter.unusedSimpArgs false
set_option linter.unusedVariables false

theorem mem_upG {L : List (List Sy)} {i j : Nat} (hi : i < L.length) (hj : j < (rowS L i).length) (hg : isG (atS L i j) = true) : ((i, j), atS L i j) ∈ globs L := by
  refine (upG_in (j := j + 1) hi).subset ?_
  rw [upG_more hj, if_pos hg]; simp
/-- Nobody of these is the second of its name. -/
def noTwo (L : List (List Sy)) (gs : List Gs) : Prop := ∀ x ∈ gs, findV L x.2.1 = some x.1
theorem find_first {α : Type} {f : α → Bool} {pre l : List α} {x : α} (h : pre ++ [x] <+: l) (h1 : ∀ y ∈ pre, f y = false) (h2 : f x = true) : l.find? f = some x := by
  obtain ⟨t, rfl⟩ := h
  rw [List.find?_append, List.find?_append]
  have : pre.find? f = none := List.find?_eq_none.2 fun y hy => by rw [h1 y hy]; simp
  rw [this]
  simp [h2]
theorem twice_at {L : List (List Sy)} {i j : Nat} (hi : i < L.length) (hj : j < (rowS L i).length) (hg : isG (atS L i j) = true) (h1 : noTwo L (upG L i j)) (h2 : findV L (atS L i j).1 ≠ some (i, j)) : twiceV L = some (i, j) := by
  unfold twiceV
  have hp : upG L i j ++ [((i, j), atS L i j)] <+: globs L := by
    have := upG_in (j := j + 1) hi
    rwa [upG_more hj, if_pos hg] at this
  rw [find_first hp (fun y hy => by simpa using h1 y hy) (by simpa using h2)]; rfl
theorem noTwo_more {L : List (List Sy)} {i j : Nat} (hj : j < (rowS L i).length) (h1 : noTwo L (upG L i j)) (h : isG (atS L i j) = true → findV L (atS L i j).1 = some (i, j)) : noTwo L (upG L i (j + 1)) := by
  intro x hx
  rw [upG_more hj] at hx
  rcases List.mem_append.1 hx with hx | hx
  · exact h1 x hx
  · by_cases hg : isG (atS L i j) = true
    · rw [if_pos hg] at hx
      obtain rfl := List.mem_singleton.1 hx
      exact h hg
    · rw [if_neg hg] at hx
      simp at hx
theorem twice_all {L : List (List Sy)} (h : noTwo L (globs L)) : twiceV L = none := by
  unfold twiceV
  rw [Option.map_eq_none_iff, List.find?_eq_none]
  intro x hx
  simpa using h x hx

def rejE (o : Option Pl) : Value := match o with | some p => .tuple #[.agg #[.int .i64 12, .int .i64 (p.1 : Int), .int .i64 (p.2 : Int)], .bool true] | none => .tuple #[.agg #[.int .i64 0, .int .i64 0, .int .i64 0], .bool false]

theorem findE_some (a b : Nat) : findE (some (a, b)) = .tuple #[.int .i64 (a : Int), .int .i64 (b : Int), .bool true] := rfl

set_option maxRecDepth 100000 in
set_option maxHeartbeats 4000000 in
theorem rtwice_any (A : Option Addr) (n c B : Nat) (L : List (List Sy)) (w : World) (h : Fs w B A n c L) (hB : B ≤ w.heap.size) :
    Calls Try.prog 13 #[.slice A n c] w fun e w' => e = .returned (rejE (twiceV L)) ∧ Below w.heap.size w w' := by
  have HF := Lib.hid h
  have HB := Lib.hid hB
  have hn := h.few
  have HLN := Lib.hid h.len
  obtain ⟨W0, hW0⟩ : ∃ W0, w.alloc (.cells #[.int .i64 0, .int .i64 0, .int .i64 0] 31) = W0 := ⟨_, rfl⟩
  have hb0 : Below w.heap.size w W0 := hW0 ▸ (Below.refl _ _).alloc (Nat.le_refl _) _
  have HR := Lib.hid (fun W (hb : Below W0.heap.size W0 W) => h.below hB (hb0.trans (hb.mono hb0.size)))
  have HA := Lib.hid (show upG L n 0 = globs L by rw [← h.len]; exact upG_all L)
  have hbk : Blk W0 w.heap.size 31 #[.int .i64 0, .int .i64 0, .int .i64 0] := hW0 ▸ Blk.new _ _ _
  have hlt0 := hbk.lt
  have HX := Lib.hid (show ∀ W, Below W0.heap.size W0 W → Blk W w.heap.size 31 #[.int .i64 0, .int .i64 0, .int .i64 0] from fun W hb => hbk.below hb hlt0)
  have HB0 := Lib.hid hb0
  have HLT := Lib.hid hlt0
  clear h hB hb0 hbk hlt0
  go_enter Try.func13, Try.ntmps13
  go_wp2_with fail
  go_loopw [4] (fun i wr => ∃ k : Nat, k ≤ n ∧ i = .int .i64 (k : Int) ∧ noTwo L (upG L k 0) ∧ Below W0.heap.size W0 wr) (fun i _ => n - (intOf i).toNat)
  case atStart => exact ⟨0, Nat.zero_le _, rfl, by rw [upG_zero]; exact fun x hx => absurd hx (by simp), Below.refl _ _⟩
  case round =>
    obtain ⟨k, hk, rfl, hno, hbel⟩ := hrel
    by_cases hlt : k < n
    · have hkI : (k : Int) < (n : Int) := by omega
      have hk0 : (0 : Int) ≤ (k : Int) := by omega
      obtain ⟨wz, hwz⟩ : ∃ wz, wz = wr := ⟨_, rfl⟩
      subst hwz
      have HNO := Lib.hid hno
      have HBE := Lib.hid hbel
      obtain ⟨on, hon⟩ : ∃ on, (rowS L k).length = on := ⟨_, rfl⟩
      have HON := Lib.hid hon
      have honm : on ≤ 9223372036854775807 := by
        obtain ⟨_, _, _, _, _, _, _, _, _, _, _, _, _, _, _, h1, h2, _⟩ := (HR.out _ hbel).row k hlt
        omega
      clear hno hbel hon
      go_wp2_with fail
      go_loopw [5] (fun i wr => ∃ j : Nat, j ≤ on ∧ i = .int .i64 (j : Int) ∧ noTwo L (upG L k j) ∧ Below W0.heap.size W0 wr) (fun i _ => on - (intOf i).toNat)
      case atStart => exact ⟨0, Nat.zero_le _, rfl, HNO.out, HBE.out⟩
      case round =>
        obtain ⟨j, hj, rfl, hno, hbel⟩ := hrel
        obtain ⟨ad, oA, on', oc, fA, fn, fc, dA, dn, dc, rfl, hblk, c0, c1, c2, h1, h2, h3⟩ := (HR.out wr hbel).row k hlt
        obtain rfl : on' = on := by rw [← h1, HON.out]
        clear h1 h2 c1 c2
        by_cases hjl : j < on'
        · have hjI : (j : Int) < (on' : Int) := by omega
          have hj0 : (0 : Int) ≤ (j : Int) := by omega
          obtain ⟨ad2, rfl, hb2, s0, s1, s2, s3, s4⟩ := h3 j hjl
          have hkL : k < L.length := by rw [HLN.out]; exact hlt
          have hjL : j < (rowS L k).length := by rw [HON.out]; exact hjl
          have HM := Lib.hid (fun h => noTwo_more (L := L) (i := k) (j := j) hjL hno h)
          have HT := Lib.hid (fun hg h => twice_at (L := L) (i := k) (j := j) hkL hjL hg hno h)
          have HIS := Lib.hid (fun hg => findV_is (mem_upG (L := L) (i := k) (j := j) hkL hjL hg))
          have HBE2 := Lib.hid hbel
          clear h3 hbel hno hkL hjL
          generalize atS L k j = s at *
          obtain ⟨wa, hwa⟩ : ∃ wa, wr.alloc (.cells (encSy s).toArray 42) = wa := ⟨_, rfl⟩
          have HWA := Lib.hid (show Below wr.heap.size wr wa from hwa ▸ (Below.refl _ _).alloc (Nat.le_refl _) _)
          have HFI := Lib.hid (rfind_any (some ad) n c B L s.1 wa ((HR.out wa (HBE2.out.trans (HWA.out.mono HBE2.out.size)))) (Nat.le_trans HB.out (Nat.le_trans HB0.out.size (Nat.le_trans HBE2.out.size HWA.out.size))))
          have HG := Lib.hid (fun w => rglobal_any s w)
          obtain ⟨y0, y1, y2, y3, y4⟩ := s
          unfold syV at HG
          unfold encSy at hwa
          dsimp only at s0 s1 s2 s3 s4 HG hwa HFI HM HT HIS
          have hbk : Blk wa wr.heap.size 42 #[.string y0, .bool y1, .int .i64 y2, .int .i64 y3, .int .i64 y4] := by rw [← hwa]; exact Blk.new _ _ _
          have hsz := hbk.lt
          have HBK := Lib.hid hbk
          have cw : wa.cell? ⟨wr.heap.size, 0, none⟩ = some (.string y0) := hbk.cell 0
          clear hbk
          obtain ⟨r, hr⟩ : ∃ r, findV L y0 = r := ⟨_, rfl⟩
          rw [hr] at HFI HM HT HIS
          have HR2 := Lib.hid hr
          clear hr
          have hk1 : ¬ (k : Int) = -1 := by omega
          obtain ⟨a, b, hab⟩ : ∃ a b : Nat, gP r = (a, b) := ⟨_, _, rfl⟩
          obtain ⟨rs, hrs⟩ : ∃ rs, r.isSome = rs := ⟨_, rfl⟩
          have hfe : findE r = .tuple #[.int .i64 (a : Int), .int .i64 (b : Int), .bool rs] := by unfold findE; rw [show r.getD (0, 0) = (a, b) from hab, hrs]
          rw [hfe] at HFI
          clear hfe
          have HAB := Lib.hid hab
          have HRS := Lib.hid hrs
          clear hab hrs
          cases hg : isG (y0, y1, y2, y3, y4) with
          | false =>
            rw [hg] at HG
            have HV := Lib.hid (HM.out (by rw [hg]; intro h; cases h))
            clear hg
            go_wp2_with (first | (go_at_call 9; refine HFI.out.mono ?_; rintro e w2 ⟨rfl, hb2⟩; have hbk2 := HBK.out.below hb2 HBK.out.lt; have e0 : w2.cell? ⟨wr.heap.size, 0, none⟩ = some (.string y0) := hbk2.cell 0; have e1 : w2.cell? ⟨wr.heap.size, 1, none⟩ = some (.bool y1) := hbk2.cell 1; have e2 : w2.cell? ⟨wr.heap.size, 2, none⟩ = some (.int .i64 y2) := hbk2.cell 2; have e3 : w2.cell? ⟨wr.heap.size, 3, none⟩ = some (.int .i64 y3) := hbk2.cell 3; have e4 : w2.cell? ⟨wr.heap.size, 4, none⟩ = some (.int .i64 y4) := hbk2.cell 4; have HB2 := Lib.hid hb2; clear hb2 hbk2) | (go_at_call 18; refine (HG.out _).mono ?_; rintro e w3 ⟨rfl, hb3⟩; have HB3 := Lib.hid (show Below W0.heap.size W0 w3 from ((HBE2.out.trans (HWA.out.mono HBE2.out.size)).trans (HB2.out.mono (Nat.le_trans HBE2.out.size HWA.out.size))).trans (hb3.mono (Nat.le_trans (Nat.le_trans HBE2.out.size HWA.out.size) HB2.out.size))); have hrb3 := HX.out w3 HB3.out; have r0 : w3.cell? ⟨w.heap.size, 0, none⟩ = some (.int .i64 0) := hrb3.cell 0; have r1 : w3.cell? ⟨w.heap.size, 1, none⟩ = some (.int .i64 0) := hrb3.cell 1; have r2 : w3.cell? ⟨w.heap.size, 2, none⟩ = some (.int .i64 0) := hrb3.cell 2; have f0 := hrb3.frozen 0; have f1 := hrb3.frozen 1; have f2 := hrb3.frozen 2; have HRB3 := Lib.hid hrb3; clear hb3 hrb3))
            go_roundw
            case rel => exact ⟨j + 1, by omega, by go_num, HV.out, HB3.out⟩
            case measure => simp [intOf]; omega
          | true =>
            rw [hg] at HG
            obtain ⟨p, hp⟩ := HIS.out hg
            have hpab : p = (a, b) := by have := HAB.out; rw [hp] at this; exact this
            subst hpab
            by_cases hka : a = k
            · subst hka
              have na : ((a : Int) != (a : Int)) = false := by simp
              by_cases hkb : b = j
              · subst hkb
                have nb : ((b : Int) != (b : Int)) = false := by simp
                have HV := Lib.hid (HM.out fun _ => hp)
                clear hg hp
                go_wp2_with (first | (go_at_call 9; refine HFI.out.mono ?_; rintro e w2 ⟨rfl, hb2⟩; have hbk2 := HBK.out.below hb2 HBK.out.lt; have e0 : w2.cell? ⟨wr.heap.size, 0, none⟩ = some (.string y0) := hbk2.cell 0; have e1 : w2.cell? ⟨wr.heap.size, 1, none⟩ = some (.bool y1) := hbk2.cell 1; have e2 : w2.cell? ⟨wr.heap.size, 2, none⟩ = some (.int .i64 y2) := hbk2.cell 2; have e3 : w2.cell? ⟨wr.heap.size, 3, none⟩ = some (.int .i64 y3) := hbk2.cell 3; have e4 : w2.cell? ⟨wr.heap.size, 4, none⟩ = some (.int .i64 y4) := hbk2.cell 4; have HB2 := Lib.hid hb2; clear hb2 hbk2) | (go_at_call 18; refine (HG.out _).mono ?_; rintro e w3 ⟨rfl, hb3⟩; have HB3 := Lib.hid (show Below W0.heap.size W0 w3 from ((HBE2.out.trans (HWA.out.mono HBE2.out.size)).trans (HB2.out.mono (Nat.le_trans HBE2.out.size HWA.out.size))).trans (hb3.mono (Nat.le_trans (Nat.le_trans HBE2.out.size HWA.out.size) HB2.out.size))); have hrb3 := HX.out w3 HB3.out; have r0 : w3.cell? ⟨w.heap.size, 0, none⟩ = some (.int .i64 0) := hrb3.cell 0; have r1 : w3.cell? ⟨w.heap.size, 1, none⟩ = some (.int .i64 0) := hrb3.cell 1; have r2 : w3.cell? ⟨w.heap.size, 2, none⟩ = some (.int .i64 0) := hrb3.cell 2; have f0 := hrb3.frozen 0; have f1 := hrb3.frozen 1; have f2 := hrb3.frozen 2; have HRB3 := Lib.hid hrb3; clear hb3 hrb3))
                go_roundw
                case rel => exact ⟨b + 1, by omega, by go_num, HV.out, HB3.out⟩
                case measure => simp [intOf]; omega
              · have nb : ((b : Int) != (j : Int)) = true := by simp; omega
                have HV := Lib.hid (HT.out hg (by rw [hp]; intro e; injection e with e; injection e with _ e; exact hkb e))
                clear hg hp hkb
                go_wp2_with (first | (go_at_call 9; refine HFI.out.mono ?_; rintro e w2 ⟨rfl, hb2⟩; have hbk2 := HBK.out.below hb2 HBK.out.lt; have e0 : w2.cell? ⟨wr.heap.size, 0, none⟩ = some (.string y0) := hbk2.cell 0; have e1 : w2.cell? ⟨wr.heap.size, 1, none⟩ = some (.bool y1) := hbk2.cell 1; have e2 : w2.cell? ⟨wr.heap.size, 2, none⟩ = some (.int .i64 y2) := hbk2.cell 2; have e3 : w2.cell? ⟨wr.heap.size, 3, none⟩ = some (.int .i64 y3) := hbk2.cell 3; have e4 : w2.cell? ⟨wr.heap.size, 4, none⟩ = some (.int .i64 y4) := hbk2.cell 4; have HB2 := Lib.hid hb2; clear hb2 hbk2) | (go_at_call 18; refine (HG.out _).mono ?_; rintro e w3 ⟨rfl, hb3⟩; have HB3 := Lib.hid (show Below W0.heap.size W0 w3 from ((HBE2.out.trans (HWA.out.mono HBE2.out.size)).trans (HB2.out.mono (Nat.le_trans HBE2.out.size HWA.out.size))).trans (hb3.mono (Nat.le_trans (Nat.le_trans HBE2.out.size HWA.out.size) HB2.out.size))); have hrb3 := HX.out w3 HB3.out; have r0 : w3.cell? ⟨w.heap.size, 0, none⟩ = some (.int .i64 0) := hrb3.cell 0; have r1 : w3.cell? ⟨w.heap.size, 1, none⟩ = some (.int .i64 0) := hrb3.cell 1; have r2 : w3.cell? ⟨w.heap.size, 2, none⟩ = some (.int .i64 0) := hrb3.cell 2; have f0 := hrb3.frozen 0; have f1 := hrb3.frozen 1; have f2 := hrb3.frozen 2; have HRB3 := Lib.hid hrb3; clear hb3 hrb3))
                have hfin : Blk (((w3.setCell ⟨w.heap.size, 0, none⟩ (.int .i64 12)).setCell ⟨w.heap.size, 1, none⟩ (.int .i64 (a : Int))).setCell ⟨w.heap.size, 2, none⟩ (.int .i64 (j : Int))) w.heap.size 31 #[.int .i64 12, .int .i64 (a : Int), .int .i64 (j : Int)] := ((HRB3.out.stored 0 _).stored 1 _).stored 2 _
                have q0 := hfin.cell 0
                have q1 := hfin.cell 1
                have q2 := hfin.cell 2
                refine bodyPost_ret (v := .tuple #[.agg #[.int .i64 12, .int .i64 (a : Int), .int .i64 (j : Int)], .bool true]) (by simp [results, Try.results13, go_sem, q0, q1, q2]) rfl ⟨by rw [HV.out]; rfl, ?_⟩
                exact (((HB0.out.trans (HB3.out.mono HB0.out.size)).setCell (p := ⟨w.heap.size, 0, none⟩) (by simp) _).setCell (p := ⟨w.heap.size, 1, none⟩) (by simp) _).setCell (p := ⟨w.heap.size, 2, none⟩) (by simp) _
            · have na : ((a : Int) != (k : Int)) = true := by simp; omega
              have HV := Lib.hid (HT.out hg (by rw [hp]; intro e; injection e with e; injection e with e _; exact hka e))
              clear hg hp hka
              go_wp2_with (first | (go_at_call 9; refine HFI.out.mono ?_; rintro e w2 ⟨rfl, hb2⟩; have hbk2 := HBK.out.below hb2 HBK.out.lt; have e0 : w2.cell? ⟨wr.heap.size, 0, none⟩ = some (.string y0) := hbk2.cell 0; have e1 : w2.cell? ⟨wr.heap.size, 1, none⟩ = some (.bool y1) := hbk2.cell 1; have e2 : w2.cell? ⟨wr.heap.size, 2, none⟩ = some (.int .i64 y2) := hbk2.cell 2; have e3 : w2.cell? ⟨wr.heap.size, 3, none⟩ = some (.int .i64 y3) := hbk2.cell 3; have e4 : w2.cell? ⟨wr.heap.size, 4, none⟩ = some (.int .i64 y4) := hbk2.cell 4; have HB2 := Lib.hid hb2; clear hb2 hbk2) | (go_at_call 18; refine (HG.out _).mono ?_; rintro e w3 ⟨rfl, hb3⟩; have HB3 := Lib.hid (show Below W0.heap.size W0 w3 from ((HBE2.out.trans (HWA.out.mono HBE2.out.size)).trans (HB2.out.mono (Nat.le_trans HBE2.out.size HWA.out.size))).trans (hb3.mono (Nat.le_trans (Nat.le_trans HBE2.out.size HWA.out.size) HB2.out.size))); have hrb3 := HX.out w3 HB3.out; have r0 : w3.cell? ⟨w.heap.size, 0, none⟩ = some (.int .i64 0) := hrb3.cell 0; have r1 : w3.cell? ⟨w.heap.size, 1, none⟩ = some (.int .i64 0) := hrb3.cell 1; have r2 : w3.cell? ⟨w.heap.size, 2, none⟩ = some (.int .i64 0) := hrb3.cell 2; have f0 := hrb3.frozen 0; have f1 := hrb3.frozen 1; have f2 := hrb3.frozen 2; have HRB3 := Lib.hid hrb3; clear hb3 hrb3))
              have hfin : Blk (((w3.setCell ⟨w.heap.size, 0, none⟩ (.int .i64 12)).setCell ⟨w.heap.size, 1, none⟩ (.int .i64 (k : Int))).setCell ⟨w.heap.size, 2, none⟩ (.int .i64 (j : Int))) w.heap.size 31 #[.int .i64 12, .int .i64 (k : Int), .int .i64 (j : Int)] := ((HRB3.out.stored 0 _).stored 1 _).stored 2 _
              have q0 := hfin.cell 0
              have q1 := hfin.cell 1
              have q2 := hfin.cell 2
              refine bodyPost_ret (v := .tuple #[.agg #[.int .i64 12, .int .i64 (k : Int), .int .i64 (j : Int)], .bool true]) (by simp [results, Try.results13, go_sem, q0, q1, q2]) rfl ⟨by rw [HV.out]; rfl, ?_⟩
              exact (((HB0.out.trans (HB3.out.mono HB0.out.size)).setCell (p := ⟨w.heap.size, 0, none⟩) (by simp) _).setCell (p := ⟨w.heap.size, 1, none⟩) (by simp) _).setCell (p := ⟨w.heap.size, 2, none⟩) (by simp) _
        · obtain rfl : j = on' := by omega
          have HV := Lib.hid (show noTwo L (upG L (k + 1) 0) by rw [← upG_next, HON.out]; exact hno)
          clear hno
          go_wp2_with fail
          go_roundw
          case rel => exact ⟨k + 1, by omega, by go_num, HV.out, hbel⟩
          case measure => simp [intOf]; omega
    · obtain rfl : k = n := by omega
      rw [HA.out] at hno
      have HV := Lib.hid (twice_all hno)
      have hbk := HX.out wr hbel
      have cr0 : wr.cell? ⟨w.heap.size, 0, none⟩ = some (.int .i64 0) := hbk.cell 0
      have cr1 : wr.cell? ⟨w.heap.size, 1, none⟩ = some (.int .i64 0) := hbk.cell 1
      have cr2 : wr.cell? ⟨w.heap.size, 2, none⟩ = some (.int .i64 0) := hbk.cell 2
      have f0 := hbk.frozen 0
      have f1 := hbk.frozen 1
      have f2 := hbk.frozen 2
      have HBK := Lib.hid hbk
      clear hno hbk
      go_wp2_with fail
      have hfin : Blk (((wr.setCell ⟨w.heap.size, 0, none⟩ (.int .i64 0)).setCell ⟨w.heap.size, 1, none⟩ (.int .i64 0)).setCell ⟨w.heap.size, 2, none⟩ (.int .i64 0)) w.heap.size 31 #[.int .i64 0, .int .i64 0, .int .i64 0] := ((HBK.out.stored 0 _).stored 1 _).stored 2 _
      have q0 := hfin.cell 0
      have q1 := hfin.cell 1
      have q2 := hfin.cell 2
      refine bodyPost_ret (v := .tuple #[.agg #[.int .i64 0, .int .i64 0, .int .i64 0], .bool false]) (by simp [results, Try.results13, go_sem, q0, q1, q2]) rfl ⟨by rw [HV.out]; rfl, ?_⟩
      exact (((HB0.out.trans (hbel.mono HB0.out.size)).setCell (p := ⟨w.heap.size, 0, none⟩) (by simp) _).setCell (p := ⟨w.heap.size, 1, none⟩) (by simp) _).setCell (p := ⟨w.heap.size, 2, none⟩) (by simp) _
end Go.Proofs.Ytmabenffdpipmaa.By
