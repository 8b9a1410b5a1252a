/-
  WALK of layer 16: the document's own Put. (Ig, Eb, Jf in one)
-/
import Derived.Test.YtbknmapkdjmcjaaGreatDoorIf
import Derived.Test.YtbknmapkdjmcjaaGreatDoorRp
import Derived.Test.YtbknmapkdjmcjaaGreatDoorEa
import Derived.Test.YtbknmapkdjmcjaaGreatDoorJa

namespace Go.Proofs.YtbknmapkdjmcjaaGreatDoor.By
open Go.ChangeShapes Go.WideShapes Go.ChangeAt Go.RowKit
open Mem

set_option maxHeartbeats 4000000 in
theorem riput_any (v : Value) (l : List UInt8) (o a b c n : Int) (w : World) (h : SlV w w.heap.size v (u8s l)) (hl : l.length ≤ 1099511627) :
    Calls Tryz.prog 81 #[v, .agg #[.int .i64 o, .int .i64 a, .int .i64 b, .int .i64 c, .int .i64 n]] w (Owns w (u8s (l ++ insB o a b c n))) := by
  have B0 := Lib.hid ((Below.refl w.heap.size w).alloc (Nat.le_refl _) (.cells (insC o a b c n) 94))
  have H0 := Lib.hid (Blk.at_ (w := w) 94 (insC o a b c n) rfl)
  have V0 : Hid (SlV (w.alloc (.cells (insC o a b c n) 94)) (w.alloc (.cells (insC o a b c n) 94)).heap.size v (u8s l)) := Lib.hid ((h.below B0.out).more (by simp))
  have hE : insB o a b c n = putB o 1 ++ putB a 1 ++ putB b 1 ++ putB c 1 ++ putB n 4 := rfl
  have g0 := putB_length o 1
  have g1 := putB_length a 1
  have g2 := putB_length b 1
  have g3 := putB_length c 1
  rw [hE, ← List.append_assoc, ← List.append_assoc, ← List.append_assoc, ← List.append_assoc]
  clear hE h
  obtain ⟨l0, h0⟩ : ∃ x, x = l ++ putB o 1 := ⟨_, rfl⟩
  rw [← h0]
  obtain ⟨l1, h1⟩ : ∃ x, x = l0 ++ putB a 1 := ⟨_, rfl⟩
  rw [← h1]
  obtain ⟨l2, h2⟩ : ∃ x, x = l1 ++ putB b 1 := ⟨_, rfl⟩
  rw [← h2]
  obtain ⟨l3, h3⟩ : ∃ x, x = l2 ++ putB c 1 := ⟨_, rfl⟩
  rw [← h3]
  obtain ⟨l4, h4⟩ : ∃ x, x = l3 ++ putB n 4 := ⟨_, rfl⟩
  rw [← h4]
  have f0 : l0.length ≤ 1099511627 + 8 := by rw [h0, List.length_append]; omega
  have f1 : l1.length ≤ 1099511627 + 16 := by rw [h1, List.length_append]; omega
  have f2 : l2.length ≤ 1099511627 + 24 := by rw [h2, List.length_append]; omega
  have f3 : l3.length ≤ 1099511627 + 32 := by rw [h3, List.length_append]; omega
  have P0 := Lib.hid (fun v (w : World) h => rput_any v (u8s l) o 1 w h (u8s_one _) (by rw [u8s_length]; omega))
  have P1 := Lib.hid (fun v (w : World) h => rput_any v (u8s l0) a 1 w h (u8s_one _) (by rw [u8s_length]; omega))
  have P2 := Lib.hid (fun v (w : World) h => rput_any v (u8s l1) b 1 w h (u8s_one _) (by rw [u8s_length]; omega))
  have P3 := Lib.hid (fun v (w : World) h => rput_any v (u8s l2) c 1 w h (u8s_one _) (by rw [u8s_length]; omega))
  have P4 := Lib.hid (fun v (w : World) h => rput_any v (u8s l3) n 4 w h (u8s_one _) (by rw [u8s_length]; omega))
  rw [← u8s_append, ← h0] at P0
  rw [← u8s_append, ← h1] at P1
  rw [← u8s_append, ← h2] at P2
  rw [← u8s_append, ← h3] at P3
  rw [← u8s_append, ← h4] at P4
  unfold insC at V0
  clear f0 f1 f2 f3 h0 h1 h2 h3 h4 g0 g1 g2 g3 hl
  go_enter Tryz.func81, Tryz.ntmps81
  go_wp2_with fail
  refine (P0.out _ _ V0.out).mono ?_
  rintro e w1 ⟨v1, rfl, hown, hb⟩
  have hs1 := hb.size
  have V1 := Lib.hid (SlV.of_own hown)
  have B1 := Lib.hid (B0.out.trans (hb.mono (by simp)))
  have s1 : w.heap.size + 1 ≤ w1.heap.size := by simpa using hs1
  have H1 := Lib.hid (H0.out.below hb (by simp))
  have k1 : w1.cell? ⟨w.heap.size, 1, none⟩ = some (.int .i64 a) := by rw [H1.out.cell]; rfl
  have z1 : w.heap.size < w1.heap.size := by omega
  clear hown hb V0 B0 H0
  go_wp2_with fail
  refine (P1.out _ _ V1.out).mono ?_
  rintro e w2 ⟨v2, rfl, hown, hb⟩
  have hs2 := hb.size
  have V2 := Lib.hid (SlV.of_own hown)
  have B2 := Lib.hid (B1.out.trans (hb.mono (by omega)))
  have s2 : w.heap.size + 1 ≤ w2.heap.size := by omega
  have H2 := Lib.hid (H1.out.below hb (by omega))
  have k2 : w2.cell? ⟨w.heap.size, 2, none⟩ = some (.int .i64 b) := by rw [H2.out.cell]; rfl
  have z2 : w.heap.size < w2.heap.size := by omega
  clear hown hb V1 B1 H1
  go_wp2_with fail
  refine (P2.out _ _ V2.out).mono ?_
  rintro e w3 ⟨v3, rfl, hown, hb⟩
  have hs3 := hb.size
  have V3 := Lib.hid (SlV.of_own hown)
  have B3 := Lib.hid (B2.out.trans (hb.mono (by omega)))
  have s3 : w.heap.size + 1 ≤ w3.heap.size := by omega
  have H3 := Lib.hid (H2.out.below hb (by omega))
  have k3 : w3.cell? ⟨w.heap.size, 3, none⟩ = some (.int .i64 c) := by rw [H3.out.cell]; rfl
  have z3 : w.heap.size < w3.heap.size := by omega
  clear hown hb V2 B2 H2
  go_wp2_with fail
  refine (P3.out _ _ V3.out).mono ?_
  rintro e w4 ⟨v4, rfl, hown, hb⟩
  have hs4 := hb.size
  have V4 := Lib.hid (SlV.of_own hown)
  have B4 := Lib.hid (B3.out.trans (hb.mono (by omega)))
  have s4 : w.heap.size + 1 ≤ w4.heap.size := by omega
  have H4 := Lib.hid (H3.out.below hb (by omega))
  have k4 : w4.cell? ⟨w.heap.size, 4, none⟩ = some (.int .i64 n) := by rw [H4.out.cell]; rfl
  have z4 : w.heap.size < w4.heap.size := by omega
  clear hown hb V3 B3 H3
  go_wp2_with fail
  refine (P4.out _ _ V4.out).mono ?_
  rintro e w5 ⟨v5, rfl, hown, hb⟩
  have hs5 := hb.size
  have V5 := Lib.hid (SlV.of_own hown)
  have B5 := Lib.hid (B4.out.trans (hb.mono (by omega)))
  have OWN := Lib.hid (own_base hown (show w.heap.size ≤ w4.heap.size by omega))
  clear hown hb V4 B4
  go_wp2_with fail
  go_ret
  exact ⟨v5, rfl, OWN.out, B5.out⟩
end Go.Proofs.YtbknmapkdjmcjaaGreatDoor.By

namespace Go.Proofs.YtbknmapkdjmcjaaGreatDoor.By
open Go.RowKit
open Mem Gm Rf
set_option linter.unusedSimpArgs false
set_option linter.unusedVariables false

/-- The document's Put of a number. -/
theorem rput_w (W : World) (v : Value) (l : List UInt8) (z k : Int) (h : SlV W W.heap.size v (u8s l)) (hl : l.length ≤ 10000000) : Calls Tryz.prog 79 #[v, .int .i64 z, .int .i64 k] W fun e w' => ∃ v', e = .returned v' ∧ Ob w' W.heap.size v' (l ++ putB z k) ∧ Below W.heap.size W w' := by
  have := rput_any v (u8s l) z k W h (u8s_one l) (by rw [u8s_length]; omega)
  rw [← u8s_append] at this; exact this
def rlP (rs : List Rl) : List UInt8 := putB (rs.length : Int) 1 ++ rlsB rs
theorem ob_ban {w w' : World} {base : Nat} {v : Value} {l : List UInt8} (h : Ob w' base v l) (hb : Below w.heap.size w w') : BAn l w (.returned v) w' := by
  unfold Ob at h
  have h3 := SlV.of_own h
  obtain ⟨A, c, rfl⟩ := own_formW h
  rw [u8s_length] at h3 ⊢
  exact ⟨A, c, rfl, h3, hb⟩

set_option maxRecDepth 100000 in
set_option maxHeartbeats 2000000 in
theorem rputRelocs_any (w : World) (v : Value) (bs : List UInt8) (A : Option Addr) (n c : Nat) (rs : List Rl) (hb : SlV w w.heap.size v (u8s bs)) (hml : bs.length ≤ 1000000) (h : RlL w A n c rs) (hn : n ≤ 10000) :
    Calls Tryz.prog 82 #[v, .slice A n c] w (BAn (bs ++ rlP rs) w) := by
  have HP := Lib.hid rput_w
  have HR := Lib.hid (fun W (hb : Below w.heap.size w W) i (hi : i < n) => (h.on hb).at_ hi)
  have HL := Lib.hid (show rs.length = n from h.1)
  have HF := Lib.hid (fun b => rflag_any b)
  have HSB := Lib.hid hb
  have HBL := Lib.hid hml
  have HTL := Lib.hid (show ∀ k, (bs ++ putB (n : Int) 1 ++ rlsB (rs.take k)).length ≤ 1100000 from fun k => by
    have : (rs.take k).length ≤ n := by rw [List.length_take, h.1]; omega
    rw [List.length_append, List.length_append, putB1, rlsB_len]; omega)
  clear h hb hml
  go_enter Tryz.func82, Tryz.ntmps82
  go_wp2_with (go_at_call 79; refine (HP.out _ _ _ _ _ HSB.out (by have := HBL.out; omega)).mono ?_; rintro e w1 ⟨v1, rfl, ho1, hb1⟩; have HO1 := Lib.hid ho1; have HB1 := Lib.hid hb1; clear ho1 hb1)
  go_loopw [0, 5] (fun v i wr => ∃ k : Nat, k ≤ n ∧ i = .int .i64 (k : Int) ∧ Ob wr w.heap.size v (bs ++ putB (n : Int) 1 ++ rlsB (rs.take k)) ∧ Below w.heap.size w wr) (fun _ i _ => n - (intOf i).toNat)
  case atStart => exact ⟨0, Nat.zero_le _, rfl, by rw [List.take_zero, show rlsB [] = [] from rfl, List.append_nil]; exact HO1.out, HB1.out⟩
  case round =>
    obtain ⟨k, hk, rfl, hown, hbel⟩ := hrel
    have HOW := Lib.hid hown
    have HBE := Lib.hid hbel
    by_cases hlt : k < n
    · have hkI : (k : Int) < (n : Int) := by omega
      have HNX := Lib.hid (rlsB_next (l := rs) (k := k) (by rw [HL.out]; exact hlt))
      have HRD := Lib.hid (fun W hb => HR.out W hb k hlt)
      have HTK := Lib.hid (HTL.out k)
      obtain ⟨ad, had⟩ : ∃ ad, A = some ad := (HRD.out wr hbel).imp fun _ h => h.1
      subst had
      have HNX2 := Lib.hid (show bs ++ putB (n : Int) 1 ++ rlsB (rs.take (k + 1)) = bs ++ putB (n : Int) 1 ++ rlsB (rs.take k) ++ rlB (rlAt rs k) by rw [HNX.out]; simp [List.append_assoc])
      obtain ⟨T, hT⟩ : ∃ T, bs ++ putB (n : Int) 1 ++ rlsB (rs.take k) = T := ⟨_, rfl⟩
      rw [hT] at HOW HTK HNX2
      clear hT HNX
      obtain ⟨x, hx⟩ : ∃ x, rlAt rs k = x := ⟨_, rfl⟩
      rw [hx] at HNX2 HRD
      clear hx
      obtain ⟨ad1, e1, _, c0, c1, c2⟩ := HRD.out wr hbel
      injection e1 with e1
      subst e1
      clear hown hbel
      go_wp2_with fail
      refine (HP.out _ _ _ _ _ (SlV.of_own HOW.out) (by have := HTK.out; omega)).mono ?_
      rintro e w2 ⟨v2, rfl, ho2, hb2⟩
      have HO22 := Lib.hid ho2
      have HB22 := Lib.hid (to_ HBE.out hb2)
      obtain ⟨ad1, e1, _, c0, c1, c2⟩ := HRD.out w2 HB22.out
      injection e1 with e1
      subst e1
      clear ho2 hb2
      go_wp2_with fail
      refine (HP.out _ _ _ _ _ (SlV.of_own HO22.out) (by have := HTK.out; (try simp only [List.length_append, putB1]); omega)).mono ?_
      rintro e w3 ⟨v3, rfl, ho3, hb3⟩
      have HO23 := Lib.hid ho3
      have HB23 := Lib.hid (to_ HB22.out hb3)
      obtain ⟨ad1, e1, _, c0, c1, c2⟩ := HRD.out w3 HB23.out
      injection e1 with e1
      subst e1
      clear ho3 hb3
      go_wp2_with fail
      refine (HF.out _ _).mono ?_
      rintro e w9 ⟨rfl, rfl⟩
      go_wp2_with fail
      refine (HP.out _ _ _ _ _ (SlV.of_own HO23.out) (by have := HTK.out; (try simp only [List.length_append, putB1]); omega)).mono ?_
      rintro e w6 ⟨v6, rfl, ho6, hb6⟩
      have HO26 := Lib.hid ho6
      have HB26 := Lib.hid (to_ HB23.out hb6)
      clear ho6 hb6
      go_wp2_with fail
      go_roundw
      case rel =>
        refine ⟨k + 1, by omega, by go_num, ?_, HB26.out⟩
        have h9 := HO26.out
        rw [HNX2.out]
        unfold rlB
        have h10 : Ob w6 w.heap.size v6 _ := own_base h9 HB23.out.size
        simpa [List.append_assoc] using h10
      case measure => simp [intOf]; omega
    · obtain rfl : k = n := by omega
      rw [show rs.take k = rs from List.take_of_length_le (by rw [HL.out]; exact Nat.le_refl _)] at HOW
      clear hown hbel
      go_wp2_with fail
      go_ret
      have h9 := ob_ban HOW.out HBE.out
      unfold rlP
      rw [HL.out, ← List.append_assoc]
      exact h9

set_option maxRecDepth 100000 in
set_option maxHeartbeats 4000000 in
theorem rputD_any (w : World) (v : Value) (bs : List UInt8) (kd : Int) (AW AR : Option Addr) (nW cW nR cR : Nat) (ws : List Int) (rs : List Rl) (hb : SlV w w.heap.size v (u8s bs)) (hml : bs.length ≤ 100000) (hW : IW w (.slice AW nW cW) ws) (hWL : ws.length = nW) (hWn : nW ≤ 10000) (hR : RlL w AR nR cR rs) (hRn : nR ≤ 10000) :
    Calls Tryz.prog 124 #[v, .agg #[.int .i64 kd, .slice AW nW cW, .slice AR nR cR]] w (BAn (bs ++ dtB kd ws rs) w) := by
  obtain ⟨W1, hW1⟩ : ∃ W1, w.alloc (.cells #[.int .i64 kd, .slice AW nW cW, .slice AR nR cR] 137) = W1 := ⟨_, rfl⟩
  have hsz1 : w.heap.size < W1.heap.size := by rw [← hW1]; simp
  have HB0 := Lib.hid (show Below w.heap.size w W1 by rw [← hW1]; exact alloc_ _ _)
  have HX := Lib.hid (show ∀ W, Below W1.heap.size W1 W → Blk W w.heap.size 137 #[.int .i64 kd, .slice AW nW cW, .slice AR nR cR] from fun W hb => (hb.block _ hsz1).trans (by rw [← hW1]; exact Blk.new w _ _))
  have HP := Lib.hid rput_w
  have HC := Lib.hid (fun W (hb : Below w.heap.size w W) i (hi : i < nW) => iw_cell (hW.on hb) hWL hi)
  have HPR := Lib.hid (fun W (hbb : Below w.heap.size w W) v bs (hv : SlV W W.heap.size v (u8s bs)) (hl : bs.length ≤ 1000000) => rputRelocs_any W v bs AR nR cR rs hv hl (hR.on hbb) hRn)
  have HSB := Lib.hid (show SlV W1 W1.heap.size v (u8s bs) from by rw [← hW1]; exact (hb.below (alloc_ _ _)).more (alloc_ _ _).size)
  have HL := Lib.hid hWL
  have HFV := Lib.hid (show dtB kd ws rs = putB kd 1 ++ (putB (nW : Int) 1 ++ wsB ws) ++ rlP rs from by unfold dtB rlP; rw [hWL])
  have HBL := Lib.hid hml
  have HTL := Lib.hid (show ∀ k, (bs ++ putB kd 1 ++ putB (nW : Int) 1 ++ wsB (ws.take k)).length ≤ 900000 from fun k => by
    have : (ws.take k).length ≤ nW := by rw [List.length_take, hWL]; omega
    rw [List.length_append, List.length_append, List.length_append, putB1, putB1, wsB_len]; omega)
  clear hb hml hW hWL hR hRn
  obtain ⟨c0, c1, c2⟩ := blk3 (HX.out W1 (Below.refl _ _))
  go_enter Tryz.func124, Tryz.ntmps124
  go_wp2_with fail
  clear hW1
  refine (HP.out _ _ _ _ _ HSB.out (by have := HBL.out; omega)).mono ?_
  rintro e w2 ⟨v2, rfl, ho2, hb2⟩
  have HO2 := Lib.hid ho2
  have HB2 := Lib.hid hb2
  obtain ⟨c0, c1, c2⟩ := blk3 (HX.out w2 hb2)
  clear ho2 hb2
  go_wp2_with fail
  refine (HP.out _ _ _ _ _ (SlV.of_own HO2.out) (by have := HBL.out; simp only [List.length_append, putB1]; omega)).mono ?_
  rintro e w3 ⟨v3, rfl, ho3, hb3⟩
  have HO3 := Lib.hid (own_base ho3 HB2.out.size)
  have HB3 := Lib.hid (to_ HB2.out hb3)
  clear ho3 hb3 c0 c1 c2
  go_wp2_with fail
  go_loopw [0, 5] (fun v i wr => ∃ k : Nat, k ≤ nW ∧ i = .int .i64 (k : Int) ∧ Ob wr W1.heap.size v (bs ++ putB kd 1 ++ putB (nW : Int) 1 ++ wsB (ws.take k)) ∧ Below W1.heap.size W1 wr) (fun _ i _ => nW - (intOf i).toNat)
  case atStart => exact ⟨0, Nat.zero_le _, rfl, by rw [List.take_zero, show wsB [] = [] from rfl, List.append_nil]; exact HO3.out, HB3.out⟩
  case round =>
    obtain ⟨k, hk, rfl, hown, hbel⟩ := hrel
    have HOW := Lib.hid hown
    have HBE := Lib.hid hbel
    obtain ⟨c0, c1, c2⟩ := blk3 (HX.out wr hbel)
    by_cases hlt : k < nW
    · have hkI : (k : Int) < (nW : Int) := by omega
      obtain ⟨ad, rfl, _, cx⟩ := HC.out wr (to_ HB0.out hbel) k hlt
      have HNX := Lib.hid (wsB_next (l := ws) (k := k) (by rw [HL.out]; exact hlt))
      have HTK := Lib.hid (HTL.out k)
      generalize el ws k = x at HNX cx
      clear hown hbel
      go_wp2_with fail
      refine (HP.out _ _ _ _ _ (SlV.of_own HOW.out) (by have := HTK.out; omega)).mono ?_
      rintro e w5 ⟨v5, rfl, ho5, hb5⟩
      have HO5 := Lib.hid (own_base ho5 HBE.out.size)
      have HB5 := Lib.hid (to_ HBE.out hb5)
      clear ho5 hb5
      go_wp2_with fail
      go_roundw
      case rel =>
        refine ⟨k + 1, by omega, by go_num, ?_, HB5.out⟩
        rw [HNX.out]
        have h9 : Ob w5 W1.heap.size v5 _ := HO5.out
        simpa [List.append_assoc] using h9
      case measure => simp [intOf]; omega
    · obtain rfl : k = nW := by omega
      rw [show ws.take k = ws from List.take_of_length_le (by rw [HL.out]; exact Nat.le_refl _)] at HOW
      have HTK := Lib.hid (HTL.out k)
      rw [show ws.take k = ws from List.take_of_length_le (by rw [HL.out]; exact Nat.le_refl _)] at HTK
      have HQ := Lib.hid (HPR.out wr (to_ HB0.out hbel) _ _ (SlV.of_own HOW.out) (by have := HTK.out; omega))
      obtain ⟨N, hN⟩ : ∃ N, (bs ++ dtB kd ws rs).length = N := ⟨_, rfl⟩
      have HN9 := Lib.hid hN
      have HQ2 := Lib.hid (HQ.out.mono fun _ _ hh => ban_n (show _ = bs ++ dtB kd ws rs by rw [HFV.out]; simp [List.append_assoc]) HN9.out hh)
      clear hown hbel hN HQ
      go_wp2_with fail
      refine HQ2.out.mono ?_
      rintro e w5 ⟨A5, c5, rfl, h5, b5⟩
      have H5 := Lib.hid h5
      have HB5 := Lib.hid b5
      clear h5 b5
      go_wp2_with fail
      go_ret
      exact n_ban HN9.out ⟨A5, c5, rfl, H5.out, to_ HB0.out (to_ HBE.out HB5.out)⟩
end Go.Proofs.YtbknmapkdjmcjaaGreatDoor.By

namespace Go.Proofs.YtbknmapkdjmcjaaGreatDoor.By
open Go.RowKit
open Mem Gm Rf
set_option linter.unusedSimpArgs false
set_option linter.unusedVariables false

theorem riput_w (W : World) (v : Value) (l : List UInt8) (x : In5) (h : SlV W W.heap.size v (u8s l)) (hl : l.length ≤ 10000000) : Calls Tryz.prog 81 #[v, .agg #[.int .i64 x.1, .int .i64 x.2.1, .int .i64 x.2.2.1, .int .i64 x.2.2.2.1, .int .i64 x.2.2.2.2]] W fun e w' => ∃ v', e = .returned v' ∧ Ob w' W.heap.size v' (l ++ inB x) ∧ Below W.heap.size W w' :=
  riput_any v l x.1 x.2.1 x.2.2.1 x.2.2.2.1 x.2.2.2.2 W h (by omega)

set_option maxRecDepth 100000 in
set_option maxHeartbeats 8000000 in
theorem rputF_any (w : World) (v : Value) (bs : List UInt8) (AK AL AC AR : Option Addr) (nK cK nL cL nC cC nR cR : Nat) (x : Fn) (hb : SlV w w.heap.size v (u8s bs)) (hml : bs.length ≤ 100000) (hF : FnW w AK nK cK AL nL cL AC nC cC AR nR cR x) (hK : nK ≤ 10000) (hL : nL ≤ 10000) (hC : nC ≤ 10000) (hR : nR ≤ 10000) :
    Calls Tryz.prog 23 #[v, .agg #[.int .i64 x.k, .slice AK nK cK, .int .i64 x.pd, .bool x.ns, .int .i64 x.f, .int .i64 x.t, .slice AL nL cL, .slice AC nC cC, .slice AR nR cR]] w (BAn (bs ++ fnB x) w) := by
  obtain ⟨k0, ks, pd, ns, f0, t0, ls, cs, rs⟩ := x
  obtain ⟨hk, hkl, hl, hc, hr⟩ := hF
  dsimp only at hk hkl hl hc hr ⊢
  have hll : ls.length = nL := hl.1
  have hcl : cs.length = nC := hc.1
  have hrl : rs.length = nR := hr.1
  obtain ⟨W1, hW1⟩ : ∃ W1, w.alloc (.cells #[.int .i64 k0, .slice AK nK cK, .int .i64 pd, .bool ns, .int .i64 f0, .int .i64 t0, .slice AL nL cL, .slice AC nC cC, .slice AR nR cR] 27) = W1 := ⟨_, rfl⟩
  have hsz1 : w.heap.size < W1.heap.size := by rw [← hW1]; simp
  have HB0 := Lib.hid (show Below w.heap.size w W1 by rw [← hW1]; exact alloc_ _ _)
  have HX := Lib.hid (show ∀ W, Below W1.heap.size W1 W → Blk W w.heap.size 27 #[.int .i64 k0, .slice AK nK cK, .int .i64 pd, .bool ns, .int .i64 f0, .int .i64 t0, .slice AL nL cL, .slice AC nC cC, .slice AR nR cR] from fun W hb => (hb.block _ hsz1).trans (by rw [← hW1]; exact Blk.new w _ _))
  have HP := Lib.hid rput_w
  have HI := Lib.hid riput_w
  have HF := Lib.hid (fun b => rflag_any b)
  have HCK := Lib.hid (fun W (hb : Below W1.heap.size W1 W) i (hi : i < nK) => iw_cell (hk.on (to_ HB0.out hb)) hkl hi)
  have HCL := Lib.hid (fun W (hb : Below W1.heap.size W1 W) i (hi : i < nL) => (hl.on (to_ HB0.out hb)).at_ hi)
  have HCC := Lib.hid (fun W (hb : Below W1.heap.size W1 W) i (hi : i < nC) => (hc.on (to_ HB0.out hb)).at_ hi)
  have HPR := Lib.hid (fun W (hbb : Below W1.heap.size W1 W) v bs (hv : SlV W W.heap.size v (u8s bs)) (hl : bs.length ≤ 1000000) => rputRelocs_any W v bs AR nR cR rs hv hl (hr.on (to_ HB0.out hbb)) hR)
  have HSB := Lib.hid (show SlV W1 W1.heap.size v (u8s bs) from by rw [← hW1]; exact (hb.below (alloc_ _ _)).more (alloc_ _ _).size)
  have HNN := Lib.hid (show ks.length = nK ∧ ls.length = nL ∧ cs.length = nC from ⟨hkl, hll, hcl⟩)
  have HFV := Lib.hid (show fnB ⟨k0, ks, pd, ns, f0, t0, ls, cs, rs⟩ = putB k0 1 ++ (putB (nK : Int) 1 ++ ksB ks) ++ putB pd 2 ++ putB (fl ns) 1 ++ putB f0 1 ++ putB t0 1 ++ (putB (nL : Int) 1 ++ lnsB ls) ++ (putB (nC : Int) 1 ++ insLB cs) ++ rlP rs from by unfold fnB rlP; dsimp only; rw [hkl, hll, hcl])
  obtain ⟨S1, hS1⟩ : ∃ S1, bs ++ putB k0 1 ++ putB (nK : Int) 1 = S1 := ⟨_, rfl⟩
  obtain ⟨S2, hS2⟩ : ∃ S2, S1 ++ ksB ks ++ putB pd 2 ++ putB (fl ns) 1 ++ putB f0 1 ++ putB t0 1 ++ putB (nL : Int) 1 = S2 := ⟨_, rfl⟩
  obtain ⟨S3, hS3⟩ : ∃ S3, S2 ++ lnsB ls ++ putB (nC : Int) 1 = S3 := ⟨_, rfl⟩
  have hl1 : S1.length = bs.length + 2 := by rw [← hS1]; simp [putB1]
  have hl2 : S2.length = bs.length + 2 + nK + 6 := by rw [← hS2]; simp only [List.length_append, putB1, putB2, hl1, ksB_len, hkl]
  have hl3 : S3.length = bs.length + 2 + nK + 6 + 3 * nL + 1 := by rw [← hS3]; simp only [List.length_append, putB1, hl2, lnsB_len, hll]
  have HT1 := Lib.hid (show ∀ k, (S1 ++ ksB (ks.take k)).length ≤ 900000 from fun k => by
    have : (ks.take k).length ≤ nK := by rw [List.length_take, hkl]; omega
    rw [List.length_append, ksB_len]; omega)
  have HT2 := Lib.hid (show ∀ k, (S2 ++ lnsB (ls.take k)).length ≤ 900000 from fun k => by
    have : (ls.take k).length ≤ nL := by rw [List.length_take, hll]; omega
    rw [List.length_append, lnsB_len]; omega)
  have HT3 := Lib.hid (show ∀ k, (S3 ++ insLB (cs.take k)).length ≤ 900000 from fun k => by
    have : (cs.take k).length ≤ nC := by rw [List.length_take, hcl]; omega
    rw [List.length_append, insLB_len]; omega)
  have HE := Lib.hid (show bs ++ putB k0 1 ++ putB (nK : Int) 1 = S1 ∧ S1 ++ ksB ks ++ putB pd 2 ++ putB (fl ns) 1 ++ putB f0 1 ++ putB t0 1 ++ putB (nL : Int) 1 = S2 ∧ S2 ++ lnsB ls ++ putB (nC : Int) 1 = S3 from ⟨hS1, hS2, hS3⟩)
  have HFE := Lib.hid (show bs ++ fnB ⟨k0, ks, pd, ns, f0, t0, ls, cs, rs⟩ = S3 ++ insLB cs ++ rlP rs from by rw [HFV.out, ← hS3, ← hS2, ← hS1]; simp [List.append_assoc])
  have HLB := Lib.hid (show bs.length ≤ 100000 ∧ S1.length ≤ 200000 ∧ S2.length ≤ 300000 ∧ S3.length ≤ 400000 from ⟨hml, by omega, by omega, by omega⟩)
  clear hb hml hk hkl hl hc hr hR hll hcl hrl hl1 hl2 hl3 hS1 hS2 hS3
  obtain ⟨c0, c1, c2, c3, c4, c5, c6, c7, c8⟩ := blk9 (HX.out W1 (Below.refl _ _))
  go_enter Tryz.func23, Tryz.ntmps23
  go_wp2_with fail
  clear hW1
  refine (HP.out _ _ _ _ _ HSB.out (by have := HLB.out; (try simp only [List.length_append, putB1, putB2]); omega)).mono ?_
  rintro e w2 ⟨v2, rfl, ho2, hb2⟩
  have HO2 := Lib.hid ho2
  have HB2 := Lib.hid hb2
  clear ho2 hb2 c0 c1 c2 c3 c4 c5 c6 c7 c8
  obtain ⟨c0, c1, c2, c3, c4, c5, c6, c7, c8⟩ := blk9 (HX.out w2 HB2.out)
  go_wp2_with fail
  refine (HP.out _ _ _ _ _ (SlV.of_own HO2.out) (by have := HLB.out; (try simp only [List.length_append, putB1, putB2]); omega)).mono ?_
  rintro e w3 ⟨v3, rfl, ho3, hb3⟩
  have HO3 := Lib.hid (own_base ho3 HB2.out.size)
  have HB3 := Lib.hid (to_ HB2.out hb3)
  clear ho3 hb3 c0 c1 c2 c3 c4 c5 c6 c7 c8
  obtain ⟨c0, c1, c2, c3, c4, c5, c6, c7, c8⟩ := blk9 (HX.out w3 HB3.out)
  go_wp2_with fail
  rw [HE.out.1] at HO3
  go_loopw [0, 5] (fun v i wr => ∃ k : Nat, k ≤ nK ∧ i = .int .i64 (k : Int) ∧ Ob wr W1.heap.size v (S1 ++ ksB (ks.take k)) ∧ Below W1.heap.size W1 wr) (fun _ i _ => nK - (intOf i).toNat)
  case atStart => exact ⟨0, Nat.zero_le _, rfl, by rw [List.take_zero, show ksB [] = [] from rfl, List.append_nil]; exact HO3.out, HB3.out⟩
  case round =>
    obtain ⟨k, hk, rfl, hown, hbel⟩ := hrel
    have HOW := Lib.hid hown
    have HBE := Lib.hid hbel
    clear c0 c1 c2 c3 c4 c5 c6 c7 c8
    obtain ⟨c0, c1, c2, c3, c4, c5, c6, c7, c8⟩ := blk9 (HX.out wr hbel)
    by_cases hlt : k < nK
    · have hkI : (k : Int) < (nK : Int) := by omega
      obtain ⟨ad, rfl, _, cx⟩ := HCK.out wr hbel k hlt
      have HNX := Lib.hid (ksB_next (l := ks) (k := k) (by have := HNN.out; omega))
      have HTK := Lib.hid (HT1.out k)
      generalize el ks k = x at HNX cx
      clear hown hbel
      go_wp2_with fail
      refine (HP.out _ _ _ _ _ (SlV.of_own HOW.out) (by have := HTK.out; (try simp only [List.length_append, putB1, putB2] at this ⊢); omega)).mono ?_
      rintro e w5 ⟨v5, rfl, ho5, hb5⟩
      have HO5 := Lib.hid (own_base ho5 HBE.out.size)
      have HB5 := Lib.hid (to_ HBE.out hb5)
      clear ho5 hb5
      go_wp2_with fail
      go_roundw
      case rel =>
        refine ⟨k + 1, by omega, by go_num, ?_, HB5.out⟩
        rw [HNX.out]
        have h9 : Ob w5 W1.heap.size v5 _ := HO5.out
        simpa [List.append_assoc] using h9
      case measure => simp [intOf]; omega
    · obtain rfl : k = nK := by omega
      rw [show ks.take k = ks from List.take_of_length_le (by have := HNN.out; omega)] at HOW
      have HTK := Lib.hid (HT1.out k)
      rw [show ks.take k = ks from List.take_of_length_le (by have := HNN.out; omega)] at HTK
      obtain ⟨wz, hwz⟩ : ∃ wz, wz = wr := ⟨_, rfl⟩
      subst hwz
      clear hown hbel
      go_wp2_with fail
      refine (HP.out _ _ _ _ _ (SlV.of_own HOW.out) (by have := HTK.out; (try simp only [List.length_append, putB1, putB2] at this ⊢); omega)).mono ?_
      rintro e w11 ⟨v11, rfl, ho11, hb11⟩
      have HO11 := Lib.hid (own_base ho11 HBE.out.size)
      have HB11 := Lib.hid (to_ HBE.out hb11)
      clear ho11 hb11 c0 c1 c2 c3 c4 c5 c6 c7 c8
      obtain ⟨c0, c1, c2, c3, c4, c5, c6, c7, c8⟩ := blk9 (HX.out w11 HB11.out)
      go_wp2_with fail
      refine (HF.out _ _).mono ?_
      rintro e w9 ⟨rfl, rfl⟩
      go_wp2_with fail
      refine (HP.out _ _ _ _ _ (SlV.of_own HO11.out) (by have := HTK.out; (try simp only [List.length_append, putB1, putB2] at this ⊢); omega)).mono ?_
      rintro e w12 ⟨v12, rfl, ho12, hb12⟩
      have HO12 := Lib.hid (own_base ho12 HB11.out.size)
      have HB12 := Lib.hid (to_ HB11.out hb12)
      clear ho12 hb12 c0 c1 c2 c3 c4 c5 c6 c7 c8
      obtain ⟨c0, c1, c2, c3, c4, c5, c6, c7, c8⟩ := blk9 (HX.out w12 HB12.out)
      go_wp2_with fail
      refine (HP.out _ _ _ _ _ (SlV.of_own HO12.out) (by have := HTK.out; (try simp only [List.length_append, putB1, putB2] at this ⊢); omega)).mono ?_
      rintro e w13 ⟨v13, rfl, ho13, hb13⟩
      have HO13 := Lib.hid (own_base ho13 HB12.out.size)
      have HB13 := Lib.hid (to_ HB12.out hb13)
      clear ho13 hb13 c0 c1 c2 c3 c4 c5 c6 c7 c8
      obtain ⟨c0, c1, c2, c3, c4, c5, c6, c7, c8⟩ := blk9 (HX.out w13 HB13.out)
      go_wp2_with fail
      refine (HP.out _ _ _ _ _ (SlV.of_own HO13.out) (by have := HTK.out; (try simp only [List.length_append, putB1, putB2] at this ⊢); omega)).mono ?_
      rintro e w14 ⟨v14, rfl, ho14, hb14⟩
      have HO14 := Lib.hid (own_base ho14 HB13.out.size)
      have HB14 := Lib.hid (to_ HB13.out hb14)
      clear ho14 hb14 c0 c1 c2 c3 c4 c5 c6 c7 c8
      obtain ⟨c0, c1, c2, c3, c4, c5, c6, c7, c8⟩ := blk9 (HX.out w14 HB14.out)
      go_wp2_with fail
      refine (HP.out _ _ _ _ _ (SlV.of_own HO14.out) (by have := HTK.out; (try simp only [List.length_append, putB1, putB2] at this ⊢); omega)).mono ?_
      rintro e w15 ⟨v15, rfl, ho15, hb15⟩
      have HO15 := Lib.hid (own_base ho15 HB14.out.size)
      have HB15 := Lib.hid (to_ HB14.out hb15)
      clear ho15 hb15 c0 c1 c2 c3 c4 c5 c6 c7 c8
      obtain ⟨c0, c1, c2, c3, c4, c5, c6, c7, c8⟩ := blk9 (HX.out w15 HB15.out)
      go_wp2_with fail
      rw [HE.out.2.1] at HO15
      go_loopw [0, 6] (fun v i wr => ∃ k : Nat, k ≤ nL ∧ i = .int .i64 (k : Int) ∧ Ob wr W1.heap.size v (S2 ++ lnsB (ls.take k)) ∧ Below W1.heap.size W1 wr) (fun _ i _ => nL - (intOf i).toNat)
      case atStart => exact ⟨0, Nat.zero_le _, rfl, by rw [List.take_zero, show lnsB [] = [] from rfl, List.append_nil]; exact HO15.out, HB15.out⟩
      case round =>
        obtain ⟨k, hk, rfl, hown, hbel⟩ := hrel
        have HOW := Lib.hid hown
        have HBE := Lib.hid hbel
        clear c0 c1 c2 c3 c4 c5 c6 c7 c8
        obtain ⟨c0, c1, c2, c3, c4, c5, c6, c7, c8⟩ := blk9 (HX.out wr hbel)
        by_cases hlt : k < nL
        · have hkI : (k : Int) < (nL : Int) := by omega
          obtain ⟨ad, had⟩ : ∃ ad, AL = some ad := (HCL.out wr hbel k hlt).imp fun _ h => h.1
          subst had
          have HCQ := Lib.hid (fun W hb => HCL.out W hb k hlt)
          have HNX := Lib.hid (lnsB_next (l := ls) (k := k) (by have := HNN.out; omega))
          have HTK := Lib.hid (HT2.out k)
          generalize lnAt ls k = x at HNX HCQ
          obtain ⟨ad1, e1, _, d0, d1⟩ := HCQ.out wr hbel
          injection e1 with e1
          subst e1
          clear hown hbel
          go_wp2_with fail
          refine (HP.out _ _ _ _ _ (SlV.of_own HOW.out) (by have := HTK.out; (try simp only [List.length_append, putB1, putB2] at this ⊢); omega)).mono ?_
          rintro e w5 ⟨v5, rfl, ho5, hb5⟩
          have HO5 := Lib.hid (own_base ho5 HBE.out.size)
          have HB5 := Lib.hid (to_ HBE.out hb5)
          clear ho5 hb5 d0 d1 c0 c1 c2 c3 c4 c5 c6 c7 c8
          obtain ⟨c0, c1, c2, c3, c4, c5, c6, c7, c8⟩ := blk9 (HX.out w5 HB5.out)
          obtain ⟨ad1, e1, _, d0, d1⟩ := HCQ.out w5 HB5.out
          injection e1 with e1
          subst e1
          go_wp2_with fail
          refine (HP.out _ _ _ _ _ (SlV.of_own HO5.out) (by have := HTK.out; (try simp only [List.length_append, putB1, putB2] at this ⊢); omega)).mono ?_
          rintro e w6 ⟨v6, rfl, ho6, hb6⟩
          have HO6 := Lib.hid (own_base ho6 HB5.out.size)
          have HB6 := Lib.hid (to_ HB5.out hb6)
          clear ho6 hb6 d0 d1
          go_wp2_with fail
          go_roundw
          case rel =>
            refine ⟨k + 1, by omega, by go_num, ?_, HB6.out⟩
            rw [HNX.out]
            unfold lnB
            have h9 : Ob w6 W1.heap.size v6 _ := HO6.out
            simpa [List.append_assoc] using h9
          case measure => simp [intOf]; omega
        · obtain rfl : k = nL := by omega
          rw [show ls.take k = ls from List.take_of_length_le (by have := HNN.out; omega)] at HOW
          have HTK := Lib.hid (HT2.out k)
          rw [show ls.take k = ls from List.take_of_length_le (by have := HNN.out; omega)] at HTK
          obtain ⟨wz, hwz⟩ : ∃ wz, wz = wr := ⟨_, rfl⟩
          subst hwz
          clear hown hbel
          go_wp2_with fail
          refine (HP.out _ _ _ _ _ (SlV.of_own HOW.out) (by have := HTK.out; (try simp only [List.length_append, putB1, putB2] at this ⊢); omega)).mono ?_
          rintro e w21 ⟨v21, rfl, ho21, hb21⟩
          have HO21 := Lib.hid (own_base ho21 HBE.out.size)
          have HB21 := Lib.hid (to_ HBE.out hb21)
          clear ho21 hb21 c0 c1 c2 c3 c4 c5 c6 c7 c8
          obtain ⟨c0, c1, c2, c3, c4, c5, c6, c7, c8⟩ := blk9 (HX.out w21 HB21.out)
          go_wp2_with fail
          rw [HE.out.2.2] at HO21
          go_loopw [0, 7] (fun v i wr => ∃ k : Nat, k ≤ nC ∧ i = .int .i64 (k : Int) ∧ Ob wr W1.heap.size v (S3 ++ insLB (cs.take k)) ∧ Below W1.heap.size W1 wr) (fun _ i _ => nC - (intOf i).toNat)
          case atStart => exact ⟨0, Nat.zero_le _, rfl, by rw [List.take_zero, show insLB [] = [] from rfl, List.append_nil]; exact HO21.out, HB21.out⟩
          case round =>
            obtain ⟨k, hk, rfl, hown, hbel⟩ := hrel
            have HOW := Lib.hid hown
            have HBE := Lib.hid hbel
            clear c0 c1 c2 c3 c4 c5 c6 c7 c8
            obtain ⟨c0, c1, c2, c3, c4, c5, c6, c7, c8⟩ := blk9 (HX.out wr hbel)
            by_cases hlt : k < nC
            · have hkI : (k : Int) < (nC : Int) := by omega
              obtain ⟨ad, rfl, _, d0, d1, d2, d3, d4⟩ := HCC.out wr hbel k hlt
              have HNX := Lib.hid (insLB_next (l := cs) (k := k) (by have := HNN.out; omega))
              have HTK := Lib.hid (HT3.out k)
              have HIX := Lib.hid (fun W v l h h2 => HI.out W v l (inAt cs k) h h2)
              generalize inAt cs k = x at HNX HIX d0 d1 d2 d3 d4
              clear hown hbel
              go_wp2_with fail
              refine (HIX.out _ _ _ (SlV.of_own HOW.out) (by have := HTK.out; (try simp only [List.length_append, putB1, putB2] at this ⊢); omega)).mono ?_
              rintro e w5 ⟨v5, rfl, ho5, hb5⟩
              have HO5 := Lib.hid (own_base ho5 HBE.out.size)
              have HB5 := Lib.hid (to_ HBE.out hb5)
              clear ho5 hb5
              go_wp2_with fail
              go_roundw
              case rel =>
                refine ⟨k + 1, by omega, by go_num, ?_, HB5.out⟩
                rw [HNX.out]
                have h9 : Ob w5 W1.heap.size v5 _ := HO5.out
                simpa [List.append_assoc] using h9
              case measure => simp [intOf]; omega
            · obtain rfl : k = nC := by omega
              rw [show cs.take k = cs from List.take_of_length_le (by have := HNN.out; omega)] at HOW
              have HTK := Lib.hid (HT3.out k)
              rw [show cs.take k = cs from List.take_of_length_le (by have := HNN.out; omega)] at HTK
              obtain ⟨wz, hwz⟩ : ∃ wz, wz = wr := ⟨_, rfl⟩
              subst hwz
              clear hown hbel
              go_wp2_with fail
              have HQ := Lib.hid (HPR.out wz HBE.out _ _ (SlV.of_own HOW.out) (by have := HTK.out; omega))
              obtain ⟨N, hN⟩ : ∃ N, (bs ++ fnB ⟨k0, ks, pd, ns, f0, t0, ls, cs, rs⟩).length = N := ⟨_, rfl⟩
              have HN9 := Lib.hid hN
              have HQ2 := Lib.hid (HQ.out.mono fun _ _ hh => ban_n (show _ = bs ++ fnB ⟨k0, ks, pd, ns, f0, t0, ls, cs, rs⟩ by rw [HFE.out]) HN9.out hh)
              clear hN HQ
              refine HQ2.out.mono ?_
              rintro e w5 ⟨A5, c5, rfl, h5, b5⟩
              have H5 := Lib.hid h5
              have HB5 := Lib.hid b5
              clear h5 b5
              go_wp2_with fail
              go_ret
              exact n_ban HN9.out ⟨A5, c5, rfl, H5.out, to_ HB0.out (to_ HBE.out HB5.out)⟩
end Go.Proofs.YtbknmapkdjmcjaaGreatDoor.By
