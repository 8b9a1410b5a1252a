/-
  LAW of layer 23: ScopeTells.
-/
import Derived.Test.YtmabenffdpipmaaSq
import Derived.Test.YtmabenffdpipmaaSr
namespace Go.Proofs.Ytmabenffdpipmaa.By
open Go.RowKit Go.Maps
open Mem Rf
set_option linter.unusedSimpArgs false
set_option linter.unusedVariables false

theorem flat_few {α : Type} {f : Nat → List α} {m : Nat} : ∀ n, (∀ i, i < n → (f i).length ≤ m) → ((List.range n).flatMap f).length ≤ n * m
  | 0, _ => by simp
  | n + 1, h => by
    rw [List.range_succ, List.flatMap_append, List.length_append, Nat.add_mul]
    have h1 := flat_few n (fun i hi => h i (by omega))
    have h2 := h n (by omega)
    simp only [List.flatMap_cons, List.flatMap_nil, List.append_nil]
    omega
theorem nmp_of {w : World} {A : Option Addr} {n c m k : Nat} {os : List Ob} (h : ObW w A n c os) (hn : n ≤ m) (hk : ∀ i, i < n → (obAt os i).n ≤ k) (hmk : m * k ≤ 100000) : NmP os where
  names := fun x hx => by
    obtain ⟨a, b, e⟩ := mem_allS hx
    rw [lists_length, h.1.1.1] at a
    have hr : rowS (lists os) x.1.1 = (obAt os x.1.1).l := rowS_lists (by rw [h.1.1.1]; exact a)
    refine h.2.2 _ a _ ?_
    rw [e]
    unfold atS syAt
    rw [hr] at b ⊢
    rw [List.getD_eq_getElem?_getD, List.getElem?_eq_getElem b]
    exact List.getElem_mem b
  many := by
    unfold allS
    rw [lists_length, h.1.1.1]
    refine Nat.le_trans (flat_few (m := k) n fun i hi => ?_) (Nat.le_trans (Nat.mul_le_mul_right k hn) hmk)
    rw [rowL_length, rowS_lists (by rw [h.1.1.1]; exact hi), (h.1.2 i hi).1]
    exact hk i hi
theorem rejE_letters (o : Option Pl) : ∃ (ta tb tc : Int) (tt : Bool), rejE o = .tuple #[.agg #[.int .i64 ta, .int .i64 tb, .int .i64 tc], .bool tt] := by
  cases o with
  | some p => exact ⟨_, _, _, _, rfl⟩
  | none => exact ⟨_, _, _, _, rfl⟩

set_option maxRecDepth 100000 in
set_option maxHeartbeats 4000000 in
theorem tells_any (w : World) (A : Option Addr) (n c : Nat) (os : List Ob) (nm : ByteArray) (f s : Int) (h : ObW w A n c os) :
    Calls Try.prog 3 #[.slice A n c, .string nm, .int .i64 f, .int .i64 s] w fun e w' => e = .returned (.bool true) ∧ Below w.heap.size w w' := by
  have HF := Lib.hid (few24 A n c w.heap.size os w h.1 h.2.1 (Nat.le_refl _))
  have HK := Lib.hid (fun W => known_any W)
  have H := Lib.hid h
  clear h
  by_cases h3 : (300 : Int) < (nm.size : Int)
  · go_enter Try.func3, Try.ntmps3
    go_wp2_with (go_at_call 6; refine HF.out.mono ?_; rintro e w1 ⟨⟨b, rfl, hb⟩, b1⟩; have HP := Lib.hid hb; have HB1 := Lib.hid b1; clear hb b1; cases b)
    · go_wp2_with (go_at_call 7; refine (HK.out _).mono ?_; rintro e w2 ⟨rfl, b2⟩; have HB2 := Lib.hid (HB1.out.trans (b2.mono HB1.out.size)); clear b2)
      go_ret
      exact ⟨rfl, HB2.out⟩
    · go_wp2_with (go_at_call 7; refine (HK.out _).mono ?_; rintro e w2 ⟨rfl, b2⟩; have HB2 := Lib.hid (HB1.out.trans (b2.mono HB1.out.size)); clear b2)
      go_ret
      exact ⟨rfl, HB2.out⟩
  go_enter Try.func3, Try.ntmps3
  go_wp2_with (go_at_call 6; refine HF.out.mono ?_; rintro e w1 ⟨⟨b, rfl, hb⟩, b1⟩; have HP := Lib.hid hb; have HB1 := Lib.hid b1; clear hb b1; cases b)
  · go_wp2_with (go_at_call 7; refine (HK.out _).mono ?_; rintro e w2 ⟨rfl, b2⟩; have HB2 := Lib.hid (HB1.out.trans (b2.mono HB1.out.size)); clear b2)
    go_ret
    exact ⟨rfl, HB2.out⟩
  have hfew := HP.out (by trivial)
  have hN := nmp_of H.out hfew.n9 (fun i hi => (hfew.each i hi).1) (by omega)
  have hnm : nm.size ≤ maxLen := by unfold maxLen; omega
  have hO := fun W (hb : Below w.heap.size w W) => H.out.1.below hb
  have hFs := fun W (hb : Below w.heap.size w W) => fs_of (hO W hb)
  have h1 := fun W (hb : Below w.heap.size w W) => find_any A n c _ os W (hO W hb) hb.size hN nm hnm
  have h2 := fun W (hb : Below w.heap.size w W) => rfind_any A n c _ (lists os) nm W (hFs W hb) hb.size
  have h4 := fun W (hb : Below w.heap.size w W) => bound_any A n c _ os W (hO W hb) hb.size hN f s
  have h5 := fun W (hb : Below w.heap.size w W) => rbound_any A n c _ (lists os) W (hFs W hb) hb.size f s
  have h6 := fun W (hb : Below w.heap.size w W) => twice_any A n c _ os W (hO W hb) hb.size hN
  have h7 := fun W (hb : Below w.heap.size w W) => rtwice_any A n c _ (lists os) W (hFs W hb) hb.size
  have h8 := fun W (hb : Below w.heap.size w W) => check_any A n c _ os W (hO W hb) hb.size hN
  have h9 := fun W (hb : Below w.heap.size w W) => rcheck_any A n c _ (lists os) W (hFs W hb) hb.size
  generalize lists os = L at h1 h2 h4 h5 h6 h7 h8 h9
  obtain ⟨fv, hfv⟩ : ∃ fv, findV L nm = fv := ⟨_, rfl⟩
  rw [hfv] at h1 h2
  obtain ⟨bv, hbv⟩ : ∃ bv, boundV L f s = bv := ⟨_, rfl⟩
  rw [hbv] at h4 h5
  obtain ⟨ta, tb, tc, tt, htt⟩ := rejE_letters (twiceV L)
  rw [htt] at h6 h7
  obtain ⟨cv, hcv⟩ : ∃ cv, checkV L = cv := ⟨_, rfl⟩
  rw [hcv] at h8 h9
  obtain ⟨⟨ba, bb⟩, be⟩ := bv
  obtain ⟨ca, cb, cc⟩ := cv
  unfold findE at h1 h2
  unfold boundE at h4 h5
  unfold chkE at h8 h9
  dsimp only at h4 h5 h8 h9
  obtain ⟨fa, hfa⟩ : ∃ fa : Int, ((fv.getD (0, 0)).1 : Int) = fa := ⟨_, rfl⟩
  obtain ⟨fb, hfb⟩ : ∃ fb : Int, ((fv.getD (0, 0)).2 : Int) = fb := ⟨_, rfl⟩
  obtain ⟨fx, hfx⟩ : ∃ fx, fv.isSome = fx := ⟨_, rfl⟩
  rw [hfa, hfb, hfx] at h1 h2
  have H1 := Lib.hid h1
  have H2 := Lib.hid h2
  have H4 := Lib.hid h4
  have H5 := Lib.hid h5
  have H6 := Lib.hid h6
  have H7 := Lib.hid h7
  have H8 := Lib.hid h8
  have H9 := Lib.hid h9
  clear h1 h2 h4 h5 h6 h7 h8 h9 hO hFs hN hfew hnm hfv hbv htt hcv hfa hfb hfx HP HF H
  go_wp2_with (go_at_call 8; refine (H1.out _ HB1.out).mono ?_; rintro e w2 ⟨rfl, b2⟩; have HB2 := Lib.hid (HB1.out.trans (b2.mono HB1.out.size)); clear b2)
  go_wp2_with (go_at_call 9; refine (H2.out _ HB2.out).mono ?_; rintro e w3 ⟨rfl, b3⟩; have HB3 := Lib.hid (HB2.out.trans (b3.mono HB2.out.size)); clear b3)
  go_wp2_with (go_at_call 10; refine (H4.out _ HB3.out).mono ?_; rintro e w4 ⟨rfl, b4⟩; have HB4 := Lib.hid (HB3.out.trans (b4.mono HB3.out.size)); clear b4)
  go_wp2_with (go_at_call 11; refine (H5.out _ HB4.out).mono ?_; rintro e w5 ⟨rfl, b5⟩; have HB5 := Lib.hid (HB4.out.trans (b5.mono HB4.out.size)); clear b5)
  go_wp2_with (go_at_call 12; refine (H6.out _ HB5.out).mono ?_; rintro e w6 ⟨rfl, b6⟩; obtain ⟨W6, hW6⟩ : ∃ W6, w6.alloc (.cells #[.int .i64 ta, .int .i64 tb, .int .i64 tc] 31) = W6 := ⟨_, rfl⟩; have hb6 := HB5.out.trans (b6.mono HB5.out.size); have HBK := Lib.hid (show Blk W6 w6.heap.size 31 #[.int .i64 ta, .int .i64 tb, .int .i64 tc] from hW6 ▸ Blk.new _ _ _); have HB6 := Lib.hid (show Below w.heap.size w W6 from hW6 ▸ hb6.alloc hb6.size _); clear b6 hb6)
  go_wp2_with (go_at_call 13; refine (H7.out _ HB6.out).mono ?_; rintro e w7 ⟨rfl, b7⟩; obtain ⟨W8, hW8⟩ : ∃ W8, w7.alloc (.cells #[.int .i64 ta, .int .i64 tb, .int .i64 tc] 31) = W8 := ⟨_, rfl⟩; have hb7 := HB6.out.trans (b7.mono HB6.out.size); have hk8 : Blk W8 w7.heap.size 31 #[.int .i64 ta, .int .i64 tb, .int .i64 tc] := hW8 ▸ Blk.new _ _ _; have h68 : Below W6.heap.size W6 W8 := hW8 ▸ b7.alloc b7.size _; have hk6 := HBK.out.below h68 HBK.out.lt; have r0 : W8.cell? ⟨w6.heap.size, 0, none⟩ = some (.int .i64 ta) := hk6.cell 0; have r1 : W8.cell? ⟨w6.heap.size, 1, none⟩ = some (.int .i64 tb) := hk6.cell 1; have r2 : W8.cell? ⟨w6.heap.size, 2, none⟩ = some (.int .i64 tc) := hk6.cell 2; have q0 : W8.cell? ⟨w7.heap.size, 0, none⟩ = some (.int .i64 ta) := hk8.cell 0; have q1 : W8.cell? ⟨w7.heap.size, 1, none⟩ = some (.int .i64 tb) := hk8.cell 1; have q2 : W8.cell? ⟨w7.heap.size, 2, none⟩ = some (.int .i64 tc) := hk8.cell 2; have HB8 := Lib.hid (show Below w.heap.size w W8 from hW8 ▸ hb7.alloc hb7.size _); clear b7 hb7 hk8 h68 hk6)
  go_wp2_with (go_at_call 14; refine (H8.out _ HB8.out).mono ?_; rintro e w9 ⟨rfl, b9⟩; have HB9 := Lib.hid (HB8.out.trans (b9.mono HB8.out.size)); clear b9)
  go_wp2_with (go_at_call 15; refine (H9.out _ HB9.out).mono ?_; rintro e w10 ⟨rfl, b10⟩; have HB10 := Lib.hid (HB9.out.trans (b10.mono HB9.out.size)); clear b10)
  go_wp2_with (go_at_call 7; refine (HK.out _).mono ?_; rintro e w11 ⟨rfl, b11⟩; have HB11 := Lib.hid (HB10.out.trans (b11.mono HB10.out.size)); clear b11)
  go_ret
  exact ⟨rfl, HB11.out⟩
end Go.Proofs.Ytmabenffdpipmaa.By
