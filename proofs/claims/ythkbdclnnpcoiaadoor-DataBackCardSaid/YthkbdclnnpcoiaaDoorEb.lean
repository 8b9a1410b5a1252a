/-
  WALKS of layer 15: the document's own Put.
-/
import Derived.Test.YthkbdclnnpcoiaaDoorEa
namespace Go.Proofs.YthkbdclnnpcoiaaDoor.By
open Go.RowKit
open Mem Gm Rf
set_option linter.unusedSimpArgs false
set_option linter.unusedVariables false

/-- The document's Put of a number. -/
theorem rput_w (W : World) (v : Value) (l : List UInt8) (z k : Int) (h : SlV W W.heap.size v (u8s l)) (hl : l.length ≤ 10000000) : Calls Tryd.prog 35 #[v, .int .i64 z, .int .i64 k] W fun e w' => ∃ v', e = .returned v' ∧ Ob w' W.heap.size v' (l ++ putB z k) ∧ Below W.heap.size W w' := by
  have := rput_any v (u8s l) z k W h (u8s_one l) (by rw [u8s_length]; omega)
  rw [← u8s_append] at this; exact this
def rlP (rs : List Rl) : List UInt8 := putB (rs.length : Int) 1 ++ rlsB rs
theorem ob_ban {w w' : World} {base : Nat} {v : Value} {l : List UInt8} (h : Ob w' base v l) (hb : Below w.heap.size w w') : BAn l w (.returned v) w' := by
  unfold Ob at h
  have h3 := SlV.of_own h
  obtain ⟨A, c, rfl⟩ := own_formW h
  rw [u8s_length] at h3 ⊢
  exact ⟨A, c, rfl, h3, hb⟩

set_option maxRecDepth 100000 in
set_option maxHeartbeats 2000000 in
theorem rputRelocs_any (w : World) (v : Value) (bs : List UInt8) (A : Option Addr) (n c : Nat) (rs : List Rl) (hb : SlV w w.heap.size v (u8s bs)) (hml : bs.length ≤ 1000000) (h : RlL w A n c rs) (hn : n ≤ 10000) :
    Calls Tryd.prog 36 #[v, .slice A n c] w (BAn (bs ++ rlP rs) w) := by
  have HP := Lib.hid rput_w
  have HR := Lib.hid (fun W (hb : Below w.heap.size w W) i (hi : i < n) => (h.on hb).at_ hi)
  have HL := Lib.hid (show rs.length = n from h.1)
  have HF := Lib.hid (fun b => rflag_any b)
  have HSB := Lib.hid hb
  have HBL := Lib.hid hml
  have HTL := Lib.hid (show ∀ k, (bs ++ putB (n : Int) 1 ++ rlsB (rs.take k)).length ≤ 1100000 from fun k => by
    have : (rs.take k).length ≤ n := by rw [List.length_take, h.1]; omega
    rw [List.length_append, List.length_append, putB1, rlsB_len]; omega)
  clear h hb hml
  go_enter Tryd.func36, Tryd.ntmps36
  go_wp2_with (go_at_call 35; refine (HP.out _ _ _ _ _ HSB.out (by have := HBL.out; omega)).mono ?_; rintro e w1 ⟨v1, rfl, ho1, hb1⟩; have HO1 := Lib.hid ho1; have HB1 := Lib.hid hb1; clear ho1 hb1)
  go_loopw [0, 5] (fun v i wr => ∃ k : Nat, k ≤ n ∧ i = .int .i64 (k : Int) ∧ Ob wr w.heap.size v (bs ++ putB (n : Int) 1 ++ rlsB (rs.take k)) ∧ Below w.heap.size w wr) (fun _ i _ => n - (intOf i).toNat)
  case atStart => exact ⟨0, Nat.zero_le _, rfl, by rw [List.take_zero, show rlsB [] = [] from rfl, List.append_nil]; exact HO1.out, HB1.out⟩
  case round =>
    obtain ⟨k, hk, rfl, hown, hbel⟩ := hrel
    have HOW := Lib.hid hown
    have HBE := Lib.hid hbel
    by_cases hlt : k < n
    · have hkI : (k : Int) < (n : Int) := by omega
      have HNX := Lib.hid (rlsB_next (l := rs) (k := k) (by rw [HL.out]; exact hlt))
      have HRD := Lib.hid (fun W hb => HR.out W hb k hlt)
      have HTK := Lib.hid (HTL.out k)
      obtain ⟨ad, had⟩ : ∃ ad, A = some ad := (HRD.out wr hbel).imp fun _ h => h.1
      subst had
      have HNX2 := Lib.hid (show bs ++ putB (n : Int) 1 ++ rlsB (rs.take (k + 1)) = bs ++ putB (n : Int) 1 ++ rlsB (rs.take k) ++ rlB (rlAt rs k) by rw [HNX.out]; simp [List.append_assoc])
      obtain ⟨T, hT⟩ : ∃ T, bs ++ putB (n : Int) 1 ++ rlsB (rs.take k) = T := ⟨_, rfl⟩
      rw [hT] at HOW HTK HNX2
      clear hT HNX
      obtain ⟨x, hx⟩ : ∃ x, rlAt rs k = x := ⟨_, rfl⟩
      rw [hx] at HNX2 HRD
      clear hx
      obtain ⟨ad1, e1, _, c0, c1, c2⟩ := HRD.out wr hbel
      injection e1 with e1
      subst e1
      clear hown hbel
      go_wp2_with fail
      refine (HP.out _ _ _ _ _ (SlV.of_own HOW.out) (by have := HTK.out; omega)).mono ?_
      rintro e w2 ⟨v2, rfl, ho2, hb2⟩
      have HO22 := Lib.hid ho2
      have HB22 := Lib.hid (to_ HBE.out hb2)
      obtain ⟨ad1, e1, _, c0, c1, c2⟩ := HRD.out w2 HB22.out
      injection e1 with e1
      subst e1
      clear ho2 hb2
      go_wp2_with fail
      refine (HP.out _ _ _ _ _ (SlV.of_own HO22.out) (by have := HTK.out; (try simp only [List.length_append, putB1]); omega)).mono ?_
      rintro e w3 ⟨v3, rfl, ho3, hb3⟩
      have HO23 := Lib.hid ho3
      have HB23 := Lib.hid (to_ HB22.out hb3)
      obtain ⟨ad1, e1, _, c0, c1, c2⟩ := HRD.out w3 HB23.out
      injection e1 with e1
      subst e1
      clear ho3 hb3
      go_wp2_with fail
      refine (HF.out _ _).mono ?_
      rintro e w9 ⟨rfl, rfl⟩
      go_wp2_with fail
      refine (HP.out _ _ _ _ _ (SlV.of_own HO23.out) (by have := HTK.out; (try simp only [List.length_append, putB1]); omega)).mono ?_
      rintro e w6 ⟨v6, rfl, ho6, hb6⟩
      have HO26 := Lib.hid ho6
      have HB26 := Lib.hid (to_ HB23.out hb6)
      clear ho6 hb6
      go_wp2_with fail
      go_roundw
      case rel =>
        refine ⟨k + 1, by omega, by go_num, ?_, HB26.out⟩
        have h9 := HO26.out
        rw [HNX2.out]
        unfold rlB
        have h10 : Ob w6 w.heap.size v6 _ := own_base h9 HB23.out.size
        simpa [List.append_assoc] using h10
      case measure => simp [intOf]; omega
    · obtain rfl : k = n := by omega
      rw [show rs.take k = rs from List.take_of_length_le (by rw [HL.out]; exact Nat.le_refl _)] at HOW
      clear hown hbel
      go_wp2_with fail
      go_ret
      have h9 := ob_ban HOW.out HBE.out
      unfold rlP
      rw [HL.out, ← List.append_assoc]
      exact h9

set_option maxRecDepth 100000 in
set_option maxHeartbeats 4000000 in
theorem rputD_any (w : World) (v : Value) (bs : List UInt8) (kd : Int) (AW AR : Option Addr) (nW cW nR cR : Nat) (ws : List Int) (rs : List Rl) (hb : SlV w w.heap.size v (u8s bs)) (hml : bs.length ≤ 100000) (hW : IW w (.slice AW nW cW) ws) (hWL : ws.length = nW) (hWn : nW ≤ 10000) (hR : RlL w AR nR cR rs) (hRn : nR ≤ 10000) :
    Calls Tryd.prog 16 #[v, .agg #[.int .i64 kd, .slice AW nW cW, .slice AR nR cR]] w (BAn (bs ++ dtB kd ws rs) w) := by
  obtain ⟨W1, hW1⟩ : ∃ W1, w.alloc (.cells #[.int .i64 kd, .slice AW nW cW, .slice AR nR cR] 25) = W1 := ⟨_, rfl⟩
  have hsz1 : w.heap.size < W1.heap.size := by rw [← hW1]; simp
  have HB0 := Lib.hid (show Below w.heap.size w W1 by rw [← hW1]; exact alloc_ _ _)
  have HX := Lib.hid (show ∀ W, Below W1.heap.size W1 W → Blk W w.heap.size 25 #[.int .i64 kd, .slice AW nW cW, .slice AR nR cR] from fun W hb => (hb.block _ hsz1).trans (by rw [← hW1]; exact Blk.new w _ _))
  have HP := Lib.hid rput_w
  have HC := Lib.hid (fun W (hb : Below w.heap.size w W) i (hi : i < nW) => iw_cell (hW.on hb) hWL hi)
  have HPR := Lib.hid (fun W (hbb : Below w.heap.size w W) v bs (hv : SlV W W.heap.size v (u8s bs)) (hl : bs.length ≤ 1000000) => rputRelocs_any W v bs AR nR cR rs hv hl (hR.on hbb) hRn)
  have HSB := Lib.hid (show SlV W1 W1.heap.size v (u8s bs) from by rw [← hW1]; exact (hb.below (alloc_ _ _)).more (alloc_ _ _).size)
  have HL := Lib.hid hWL
  have HFV := Lib.hid (show dtB kd ws rs = putB kd 1 ++ (putB (nW : Int) 1 ++ wsB ws) ++ rlP rs from by unfold dtB rlP; rw [hWL])
  have HBL := Lib.hid hml
  have HTL := Lib.hid (show ∀ k, (bs ++ putB kd 1 ++ putB (nW : Int) 1 ++ wsB (ws.take k)).length ≤ 900000 from fun k => by
    have : (ws.take k).length ≤ nW := by rw [List.length_take, hWL]; omega
    rw [List.length_append, List.length_append, List.length_append, putB1, putB1, wsB_len]; omega)
  clear hb hml hW hWL hR hRn
  obtain ⟨c0, c1, c2⟩ := blk3 (HX.out W1 (Below.refl _ _))
  go_enter Tryd.func16, Tryd.ntmps16
  go_wp2_with fail
  clear hW1
  refine (HP.out _ _ _ _ _ HSB.out (by have := HBL.out; omega)).mono ?_
  rintro e w2 ⟨v2, rfl, ho2, hb2⟩
  have HO2 := Lib.hid ho2
  have HB2 := Lib.hid hb2
  obtain ⟨c0, c1, c2⟩ := blk3 (HX.out w2 hb2)
  clear ho2 hb2
  go_wp2_with fail
  refine (HP.out _ _ _ _ _ (SlV.of_own HO2.out) (by have := HBL.out; simp only [List.length_append, putB1]; omega)).mono ?_
  rintro e w3 ⟨v3, rfl, ho3, hb3⟩
  have HO3 := Lib.hid (own_base ho3 HB2.out.size)
  have HB3 := Lib.hid (to_ HB2.out hb3)
  clear ho3 hb3 c0 c1 c2
  go_wp2_with fail
  go_loopw [0, 5] (fun v i wr => ∃ k : Nat, k ≤ nW ∧ i = .int .i64 (k : Int) ∧ Ob wr W1.heap.size v (bs ++ putB kd 1 ++ putB (nW : Int) 1 ++ wsB (ws.take k)) ∧ Below W1.heap.size W1 wr) (fun _ i _ => nW - (intOf i).toNat)
  case atStart => exact ⟨0, Nat.zero_le _, rfl, by rw [List.take_zero, show wsB [] = [] from rfl, List.append_nil]; exact HO3.out, HB3.out⟩
  case round =>
    obtain ⟨k, hk, rfl, hown, hbel⟩ := hrel
    have HOW := Lib.hid hown
    have HBE := Lib.hid hbel
    obtain ⟨c0, c1, c2⟩ := blk3 (HX.out wr hbel)
    by_cases hlt : k < nW
    · have hkI : (k : Int) < (nW : Int) := by omega
      obtain ⟨ad, rfl, _, cx⟩ := HC.out wr (to_ HB0.out hbel) k hlt
      have HNX := Lib.hid (wsB_next (l := ws) (k := k) (by rw [HL.out]; exact hlt))
      have HTK := Lib.hid (HTL.out k)
      generalize el ws k = x at HNX cx
      clear hown hbel
      go_wp2_with fail
      refine (HP.out _ _ _ _ _ (SlV.of_own HOW.out) (by have := HTK.out; omega)).mono ?_
      rintro e w5 ⟨v5, rfl, ho5, hb5⟩
      have HO5 := Lib.hid (own_base ho5 HBE.out.size)
      have HB5 := Lib.hid (to_ HBE.out hb5)
      clear ho5 hb5
      go_wp2_with fail
      go_roundw
      case rel =>
        refine ⟨k + 1, by omega, by go_num, ?_, HB5.out⟩
        rw [HNX.out]
        have h9 : Ob w5 W1.heap.size v5 _ := HO5.out
        simpa [List.append_assoc] using h9
      case measure => simp [intOf]; omega
    · obtain rfl : k = nW := by omega
      rw [show ws.take k = ws from List.take_of_length_le (by rw [HL.out]; exact Nat.le_refl _)] at HOW
      have HTK := Lib.hid (HTL.out k)
      rw [show ws.take k = ws from List.take_of_length_le (by rw [HL.out]; exact Nat.le_refl _)] at HTK
      have HQ := Lib.hid (HPR.out wr (to_ HB0.out hbel) _ _ (SlV.of_own HOW.out) (by have := HTK.out; omega))
      obtain ⟨N, hN⟩ : ∃ N, (bs ++ dtB kd ws rs).length = N := ⟨_, rfl⟩
      have HN9 := Lib.hid hN
      have HQ2 := Lib.hid (HQ.out.mono fun _ _ hh => ban_n (show _ = bs ++ dtB kd ws rs by rw [HFV.out]; simp [List.append_assoc]) HN9.out hh)
      clear hown hbel hN HQ
      go_wp2_with fail
      refine HQ2.out.mono ?_
      rintro e w5 ⟨A5, c5, rfl, h5, b5⟩
      have H5 := Lib.hid h5
      have HB5 := Lib.hid b5
      clear h5 b5
      go_wp2_with fail
      go_ret
      exact n_ban HN9.out ⟨A5, c5, rfl, H5.out, to_ HB0.out (to_ HBE.out HB5.out)⟩
end Go.Proofs.YthkbdclnnpcoiaaDoor.By
