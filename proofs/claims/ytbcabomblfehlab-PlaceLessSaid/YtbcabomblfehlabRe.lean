/-
  WALKS of layer 25: Few of layer 25.
-/
import Derived.Test.YtbcabomblfehlabRc
namespace Go.Proofs.Ytbcabomblfehlab.Bo
open Go.RowKit Go.Maps
open Mem Rf
set_option linter.unusedSimpArgs false
set_option linter.unusedVariables false

/-- What Few asks of a program's functions, and of its data. -/
def fewG (g : Gf) : Prop := g.F.code.2.1 ≤ 80 ∧ g.R.2.1 ≤ 80 ∧ g.F.kinds.2.1 ≤ 80 ∧ g.F.rel.2.1 ≤ 80 ∧ g.F.lines.2.1 ≤ 80
def fewD (g : Gd) : Prop := g.D.words.2.1 ≤ 80 ∧ g.R.2.1 ≤ 80 ∧ g.D.rel.2.1 ≤ 80
def FewA (w : World) (fn dn : Nat) (fs : List Gf) (ds : List Gd) (e : Ending) (w' : World) : Prop := ∃ b, e = .returned (.bool b) ∧ Below w.heap.size w w' ∧ (b = true → (∀ i, i < fn → fewG (gfAt fs i)) ∧ (∀ i, i < dn → fewD (gdAt ds i)) ∧ fn ≤ 24 ∧ dn ≤ 24)

set_option maxRecDepth 100000 in
set_option maxHeartbeats 8000000 in
theorem few25_any (w : World) (P : Pgm) (hfr : Wd 13 encGf w w.heap.size P.fA P.fn P.fc P.fs) (hdr : Wd 7 encGd w w.heap.size P.dA P.dn P.dc P.ds) :
    Calls Try.prog 22 #[pgV P] w (FewA w P.fn P.dn P.fs P.ds) := by
  have hfn : P.fn ≤ 9223372036854775807 := by have := hfr.2.1; have := hfr.2.2.1; unfold maxLen at this; omega
  have hdn : P.dn ≤ 9223372036854775807 := by have := hdr.2.1; have := hdr.2.2.1; unfold maxLen at this; omega
  have HGF := Lib.hid (fun W (hb : Below w.heap.size w W) a (ha : a < P.fn) => gf_at (hfr.below hb) ha)
  have HGD := Lib.hid (fun W (hb : Below w.heap.size w W) a (ha : a < P.dn) => gd_at (hdr.below hb) ha)
  clear hfr hdr
  obtain ⟨fA, fn, fc, fs, dA, dn, dc, ds, en, cs⟩ := P
  unfold pgV
  dsimp only at HGF HGD hfn hdn ⊢
  obtain ⟨W0, hW0⟩ : ∃ W0, w.alloc (.cells #[.slice fA fn fc, .slice dA dn dc, .int .i64 en] 30) = W0 := ⟨_, rfl⟩
  have HBW := Lib.hid (show Below w.heap.size w W0 from by rw [← hW0]; exact alloc_ _ _)
  have HP0 := Lib.hid (show Blk W0 w.heap.size 30 #[.slice fA fn fc, .slice dA dn dc, .int .i64 en] from by rw [← hW0]; exact Blk.new _ _ _)
  have b0 : W0.cell? ⟨w.heap.size, 0, none⟩ = some (.slice fA fn fc) := HP0.out.cell 0
  have b1 : W0.cell? ⟨w.heap.size, 1, none⟩ = some (.slice dA dn dc) := HP0.out.cell 1
  have b2 : W0.cell? ⟨w.heap.size, 2, none⟩ = some (.int .i64 en) := HP0.out.cell 2
  have HBB := HBW
  go_enter Try.func22, Try.ntmps22
  go_wp2_with fail
  clear hW0 b0 b1 b2
  go_loopw [3] (fun i9 wr => ∃ a : Nat, a ≤ fn ∧ i9 = .int .i64 (a : Int) ∧ Hid (Below w.heap.size w wr) ∧ Hid (Blk wr w.heap.size 30 #[.slice fA fn fc, .slice dA dn dc, .int .i64 en]) ∧ Hid (∀ i, i < a → fewG (gfAt fs i))) (fun i9 _ => fn - (intOf i9).toNat)
  case atStart => exact ⟨0, Nat.zero_le _, rfl, HBW, HP0, Lib.hid (fun i hi => by omega)⟩
  case round =>
    obtain ⟨a, ha, rfl, HBW, HPB, HFW⟩ := hrel
    have c0 : wr.cell? ⟨w.heap.size, 0, none⟩ = some (.slice fA fn fc) := HPB.out.cell 0
    by_cases hlt : a < fn
    · have haI : (a : Int) < (fn : Int) := by omega
      have ha0 : (0 : Int) ≤ (a : Int) := by omega
      have HLT := Lib.hid hlt
      obtain ⟨ad, rfl, hz9, f0, hfc⟩ := HGF.out wr HBW.out a hlt
      obtain ⟨g, hg⟩ : ∃ g, gfAt fs a = g := ⟨_, rfl⟩
      have HG := Lib.hid hg
      rw [hg] at hfc
      clear f0 hg
      obtain ⟨file, item, nm, ⟨cl, ⟨kA, kn, kc⟩, pd, no, fr, tt, ⟨lA, ln, lc⟩, ⟨cA, cn, cc⟩, ⟨rA, rn, rc⟩⟩, ⟨qA, qn, qc⟩, refs⟩ := g
      have f4 := hfc 3 _ rfl
      have f9 := hfc 8 _ rfl
      have f10 := hfc 9 _ rfl
      have f11 := hfc 10 _ rfl
      have f12 := hfc 11 _ rfl
      unfold slV at f4 f9 f10 f11 f12
      dsimp only at f4 f9 f10 f11 f12
      clear hfc
      by_cases hgcn : 80 < cn
      · have hIcn : (80 : Int) < ((cn : Nat) : Int) := by omega
        go_wp2_with fail
        go_ret
        exact ⟨false, rfl, HBW.out, fun e => by cases e⟩
      · have hIcn : ¬ (80 : Int) < ((cn : Nat) : Int) := by omega
        by_cases hgqn : 80 < qn
        · have hIqn : (80 : Int) < ((qn : Nat) : Int) := by omega
          go_wp2_with fail
          go_ret
          exact ⟨false, rfl, HBW.out, fun e => by cases e⟩
        · have hIqn : ¬ (80 : Int) < ((qn : Nat) : Int) := by omega
          by_cases hgkn : 80 < kn
          · have hIkn : (80 : Int) < ((kn : Nat) : Int) := by omega
            go_wp2_with fail
            go_ret
            exact ⟨false, rfl, HBW.out, fun e => by cases e⟩
          · have hIkn : ¬ (80 : Int) < ((kn : Nat) : Int) := by omega
            by_cases hgrn : 80 < rn
            · have hIrn : (80 : Int) < ((rn : Nat) : Int) := by omega
              go_wp2_with fail
              go_ret
              exact ⟨false, rfl, HBW.out, fun e => by cases e⟩
            · have hIrn : ¬ (80 : Int) < ((rn : Nat) : Int) := by omega
              by_cases hgln : 80 < ln
              · have hIln : (80 : Int) < ((ln : Nat) : Int) := by omega
                go_wp2_with fail
                go_ret
                exact ⟨false, rfl, HBW.out, fun e => by cases e⟩
              · have hIln : ¬ (80 : Int) < ((ln : Nat) : Int) := by omega
                have HFG := Lib.hid (show fewG ⟨file, item, nm, ⟨cl, (kA, kn, kc), pd, no, fr, tt, (lA, ln, lc), (cA, cn, cc), (rA, rn, rc)⟩, (qA, qn, qc), refs⟩ from by unfold fewG; dsimp only; omega)
                go_wp2_with fail
                go_roundw
                case rel => exact ⟨a + 1, by have := HLT.out; omega, by go_num, HBW, HPB, Lib.hid (fun i hi => by
                    by_cases e : i = a
                    · subst e; rw [HG.out]; exact HFG.out
                    · exact HFW.out i (by omega))⟩
                case measure => have := HLT.out; simp [intOf]; omega
    · obtain rfl : fn = a := by omega
      go_wp2_with fail
      clear c0
      go_loopw [4] (fun i9 wr => ∃ a : Nat, a ≤ dn ∧ i9 = .int .i64 (a : Int) ∧ Hid (Below w.heap.size w wr) ∧ Hid (Blk wr w.heap.size 30 #[.slice fA fn fc, .slice dA dn dc, .int .i64 en]) ∧ Hid (∀ i, i < a → fewD (gdAt ds i))) (fun i9 _ => dn - (intOf i9).toNat)
      case atStart => exact ⟨0, Nat.zero_le _, rfl, HBW, HPB, Lib.hid (fun i hi => by omega)⟩
      case round =>
        have HFF := HFW
        obtain ⟨a, ha, rfl, HBW, HPB, HFW⟩ := hrel
        have c0 := HPB.out.cell 0
        have c1 := HPB.out.cell 1
        by_cases hlt : a < dn
        · have haI : (a : Int) < (dn : Int) := by omega
          have ha0 : (0 : Int) ≤ (a : Int) := by omega
          have HLT := Lib.hid hlt
          obtain ⟨ad, rfl, hz9, f0, hfc⟩ := HGD.out _ HBW.out a hlt
          obtain ⟨g, hg⟩ : ∃ g, gdAt ds a = g := ⟨_, rfl⟩
          have HG := Lib.hid hg
          rw [hg] at hfc
          clear f0 hg
          obtain ⟨file, item, nm, ⟨kd, ⟨kA, kn, kc⟩, ⟨rA, rn, rc⟩⟩, ⟨qA, qn, qc⟩, refs⟩ := g
          have f4 := hfc 3 _ rfl
          have f5 := hfc 4 _ rfl
          have f6 := hfc 5 _ rfl
          unfold slV at f4 f5 f6
          dsimp only at f4 f5 f6
          clear hfc
          by_cases hgkn : 80 < kn
          · have hIkn : (80 : Int) < ((kn : Nat) : Int) := by omega
            go_wp2_with fail
            go_ret
            exact ⟨false, rfl, HBW.out, fun e => by cases e⟩
          · have hIkn : ¬ (80 : Int) < ((kn : Nat) : Int) := by omega
            by_cases hgqn : 80 < qn
            · have hIqn : (80 : Int) < ((qn : Nat) : Int) := by omega
              go_wp2_with fail
              go_ret
              exact ⟨false, rfl, HBW.out, fun e => by cases e⟩
            · have hIqn : ¬ (80 : Int) < ((qn : Nat) : Int) := by omega
              by_cases hgrn : 80 < rn
              · have hIrn : (80 : Int) < ((rn : Nat) : Int) := by omega
                go_wp2_with fail
                go_ret
                exact ⟨false, rfl, HBW.out, fun e => by cases e⟩
              · have hIrn : ¬ (80 : Int) < ((rn : Nat) : Int) := by omega
                have HFD := Lib.hid (show fewD ⟨file, item, nm, ⟨kd, (kA, kn, kc), (rA, rn, rc)⟩, (qA, qn, qc), refs⟩ from by unfold fewD; dsimp only; omega)
                go_wp2_with fail
                go_roundw
                case rel => exact ⟨a + 1, by have := HLT.out; omega, by go_num, HBW, HPB, Lib.hid (fun i hi => by
                    by_cases e : i = a
                    · subst e; rw [HG.out]; exact HFD.out
                    · exact HFW.out i (by omega))⟩
                case measure => have := HLT.out; simp [intOf]; omega
        · obtain rfl : dn = a := by omega
          by_cases h1 : fn ≤ 24
          · have h1I : (fn : Int) ≤ 24 := by omega
            by_cases h2 : dn ≤ 24
            · have h2I : (dn : Int) ≤ 24 := by omega
              go_wp2_with fail
              go_ret
              exact ⟨true, rfl, HBW.out, fun _ => ⟨HFF.out, HFW.out, h1, h2⟩⟩
            · have h2I : ¬ (dn : Int) ≤ 24 := by omega
              go_wp2_with fail
              go_ret
              exact ⟨false, rfl, HBW.out, fun e => by cases e⟩
          · have h1I : ¬ (fn : Int) ≤ 24 := by omega
            go_wp2_with fail
            go_ret
            exact ⟨false, rfl, HBW.out, fun e => by cases e⟩
end Go.Proofs.Ytbcabomblfehlab.Bo
