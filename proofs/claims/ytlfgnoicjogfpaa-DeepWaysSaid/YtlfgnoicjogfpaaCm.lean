/-
  WALKS of layer 11: Order, Back.
-/
import Derived.Test.YtlfgnoicjogfpaaCk
namespace Go.Proofs.Ytlfgnoicjogfpaa.By
open Go.RowKit
open Mem Gm Rf Hp Qu

theorem OrdAns.on {r : Option (List Nat)} {w w1 w' : World} {e : Ending} (h : OrdAns r w1 e w') (hb : Below w.heap.size w w1) : OrdAns r w e w' := ⟨h.1, hb.trans (h.2.mono hb.size)⟩

theorem inn_turn (g : List (List Int)) (ins : List Bool) : innG (turn (innG g ins)) ins = turn (innG g ins) := by
  rw [innG, turn_inn, gr_length]
  refine gr_ext _ fun a b ha hb => ?_
  rw [Bool.eq_iff_iff, Bool.and_eq_true, gr_E]
  unfold RM
  constructor
  · rintro ⟨⟨_, _, h⟩, _⟩; exact h
  · intro h
    refine ⟨⟨ha, hb, h⟩, ?_⟩
    rw [Bool.and_eq_true] at h
    rw [Bool.and_comm]; exact h.2
/-- The members in order, back. -/
def backV (g : List (List Int)) (ins : List Bool) : Option (List Nat) := ordV (turn (innG g ins)) ins

set_option maxRecDepth 100000 in
set_option maxHeartbeats 4000000 in
theorem Order_any (A A2 : Option Addr) (c c2 M B N : Nat) (g : List (List Int)) (ins : List Bool) (w : World) (hN : g.length = N) (hG : Gr w B (.slice A N c) g) (hM : ins.length = M) (hI : SlV w B (.slice A2 M c2) (bls ins)) (hB : B ≤ w.heap.size) (hs : Small g) (h5 : N ≤ 500) :
    Calls Try.prog 16 #[.slice A N c, .slice A2 M c2] w (OrdAns (ordV g ins) w) := by
  have HW := Lib.hid (within_any A A2 c c2 M B g ins w (by rw [hN]; exact hG) hM hI hB hs)
  have HO := Lib.hid (fun w1 rb base (h : OwnG w1 rb base 26 3 (innG g ins)) (hb : Below w.heap.size w w1) => order_any (some ⟨rb, 0, none⟩) A2 N c2 M w1.heap.size N g ins w1 hN
    (by have := h.gr N (by rw [innG, gr_length]; omega) (by unfold maxLen; omega); rwa [show (innG g ins).length = N by rw [innG, gr_length]; exact hN] at this) hM ((hI.below (hb.mono hB)).more (Nat.le_trans hB hb.size)) (Nat.le_refl _) h5)
  rw [hN] at HW
  unfold InnAns at HW
  clear hG hI
  generalize ordV g ins = r at HO ⊢
  go_enter Try.func16, Try.ntmps16
  go_wp2_with fail
  refine HW.out.mono ?_
  rintro e w1 ⟨rb, base, _, _, rfl, hown, hb⟩
  have HB := Lib.hid hb
  have HC := Lib.hid (HO.out w1 rb base hown hb)
  clear hown hb HO
  go_wp2_with fail
  refine HC.out.mono ?_
  rintro e w2 ⟨h1, h2⟩
  have HB2 := Lib.hid (HB.out.trans (h2.mono HB.out.size))
  cases r with
  | none =>
    obtain rfl := h1
    clear h2
    go_wp2
    refine bodyPost_ret (results_tmp2 rfl _ _ _) rfl ?_
    exact ⟨rfl, HB2.out⟩
  | some l =>
    obtain ⟨A9, c9, rfl, h1⟩ := h1
    have HS := Lib.hid h1
    clear h1 h2
    go_wp2
    refine bodyPost_ret (results_tmp2 rfl _ _ _) rfl ?_
    exact ⟨⟨_, _, rfl, HS.out⟩, HB2.out⟩

set_option maxRecDepth 100000 in
set_option maxHeartbeats 4000000 in
theorem Back_any (A A2 : Option Addr) (c c2 M B N : Nat) (g : List (List Int)) (ins : List Bool) (w : World) (hN : g.length = N) (hG : Gr w B (.slice A N c) g) (hM : ins.length = M) (hI : SlV w B (.slice A2 M c2) (bls ins)) (hB : B ≤ w.heap.size) (hs : Small g) (h5 : N ≤ 500) :
    Calls Try.prog 18 #[.slice A N c, .slice A2 M c2] w (OrdAns (backV g ins) w) := by
  have HW := Lib.hid (within_any A A2 c c2 M B g ins w (by rw [hN]; exact hG) hM hI hB hs)
  have hil : (innG g ins).length = N := by rw [innG, gr_length]; exact hN
  have HT := Lib.hid (fun w1 rb base (h : OwnG w1 rb base 26 3 (innG g ins)) => by
    have h9 := h.gr N (by rw [hil]; exact Nat.le_refl _) (by unfold maxLen; omega)
    have := turn_any (some ⟨rb, 0, none⟩) N w1.heap.size (innG g ins) w1 h9 (Nat.le_refl _) (by unfold innG; exact small_gr _ (by omega))
    rw [hil] at this; exact this)
  have HO := Lib.hid (fun w2 A3 c3 (h : Gr w2 w2.heap.size (.slice A3 N c3) (turn (innG g ins))) (hb : Below w.heap.size w w2) => order_any A3 A2 c3 c2 M w2.heap.size N (turn (innG g ins)) ins w2 (by rw [turn_length]; exact hil)
    (by rw [inn_turn]; exact h) hM ((hI.below (hb.mono hB)).more (Nat.le_trans hB hb.size)) (Nat.le_refl _) h5)
  rw [hN] at HW
  unfold InnAns at HW
  rw [show ordV (turn (innG g ins)) ins = backV g ins from rfl] at HO
  clear hG hI hil
  generalize backV g ins = r at HO ⊢
  go_enter Try.func18, Try.ntmps18
  go_wp2_with fail
  refine HW.out.mono ?_
  rintro e w1 ⟨rb, base, _, _, rfl, hown, hb⟩
  have HB := Lib.hid hb
  have HC := Lib.hid (HT.out w1 rb base hown)
  clear hown hb HT
  go_wp2_with fail
  refine HC.out.mono ?_
  rintro e w2 ⟨A3, c3, rfl, hg, hb, _⟩
  have HBB := Lib.hid (HB.out.trans (hb.mono HB.out.size))
  have HD := Lib.hid (HO.out w2 A3 c3 hg HBB.out)
  clear hg hb HO
  go_wp2_with fail
  refine HD.out.mono ?_
  rintro e w3 ⟨h1, h2⟩
  have HB2 := Lib.hid (HBB.out.trans (h2.mono HBB.out.size))
  cases r with
  | none =>
    obtain rfl := h1
    clear h2
    go_wp2
    refine bodyPost_ret (results_tmp2 rfl _ _ _) rfl ?_
    exact ⟨rfl, HB2.out⟩
  | some l =>
    obtain ⟨A9, c9, rfl, h1⟩ := h1
    have HS := Lib.hid h1
    clear h1 h2
    go_wp2
    refine bodyPost_ret (results_tmp2 rfl _ _ _) rfl ?_
    exact ⟨⟨_, _, rfl, HS.out⟩, HB2.out⟩
end Go.Proofs.Ytlfgnoicjogfpaa.By
