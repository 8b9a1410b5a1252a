/-
  WALKS of layer 14: Check, and the document's own.
-/
import Derived.Test.YtckpbdphilifoaaUh
namespace Go.Proofs.Ytckpbdphilifoaa.By
open Go.RowKit
open Mem Gm Rf

def CAns (w : World) (x : Int) (e : Ending) (w' : World) : Prop := e = .returned (.int .i64 x) ∧ Below w.heap.size w w'

theorem chk_bad {n : Nat} {g : List (List Int)} (h0 : ¬ n = 0) (h1 : ¬ 64 < n) {i : Nat} (hi : i < n) (h : (rowOf g i).any (lv n) = true) : chk n g = 10 := by
  unfold chk
  rw [if_neg h0, if_neg h1, if_pos ⟨i, hi, h⟩]

theorem chk_good {n : Nat} {g : List (List Int)} (h0 : ¬ n = 0) (h1 : ¬ 64 < n) (h : ∀ i, i < n → (rowOf g i).any (lv n) = false) : chk n g = 0 := by
  unfold chk
  rw [if_neg h0, if_neg h1, if_neg]
  rintro ⟨i, hi, h2⟩
  rw [h i hi] at h2; cases h2

set_option maxRecDepth 100000 in
set_option maxHeartbeats 2000000 in
theorem check_any (w : World) (A : Option Addr) (n c : Nat) (O T : Nat → Int) (h : Cd w w.heap.size A n c O T) :
    Calls Try.prog 29 #[.slice A n c] w (CAns w (chk n (gph n O T))) := by
  obtain ⟨W1, hW1⟩ : ∃ W1, w.alloc (.cells #[.slice A n c] 49) = W1 := ⟨_, rfl⟩
  have hb1 : Below w.heap.size w W1 := by rw [← hW1]; exact alloc1 w _
  have hz1 : w.heap.size < W1.heap.size := by rw [← hW1]; simp
  have hc1 : W1.cell? ⟨w.heap.size, 0, none⟩ = some (.slice A n c) := by rw [← hW1]; exact (Blk.new w _ _).cell 0
  have HB1 := Lib.hid hb1
  by_cases h0 : n = 0
  · have hx : chk n (gph n O T) = 3 := by unfold chk; rw [if_pos h0]
    rw [hx]
    subst h0
    clear hx h hb1 hz1
    go_enter Try.func29, Try.ntmps29
    go_wp2_with fail
    go_ret
    exact ⟨rfl, HB1.out⟩
  · by_cases h64 : 64 < n
    · have hx : chk n (gph n O T) = 6 := by unfold chk; rw [if_neg h0, if_pos h64]
      rw [hx]
      have k0 : ((n : Int) == 0) = false := by simp; omega
      have k1 : (64 : Int) < (n : Int) := by omega
      clear hx h hb1 hz1 h0 h64
      go_enter Try.func29, Try.ntmps29
      go_wp2_with fail
      go_ret
      exact ⟨rfl, HB1.out⟩
    · have HG := Lib.hid ((graph_any W1 A n c O T ((h.below hb1).more hb1.size) (by omega)).mono fun _ _ hh => hh.n)
      have HBAD := Lib.hid (fun i (hi : i < n) (hh : (rowOf (gph n O T) i).any (lv n) = true) => chk_bad h0 h64 hi hh)
      have HGOOD := Lib.hid (fun (hh : ∀ i, i < n → (rowOf (gph n O T) i).any (lv n) = false) => chk_good (g := gph n O T) h0 h64 hh)
      have HLN := Lib.hid (gph_length n O T)
      have k0 : ((n : Int) == 0) = false := by simp; omega
      have k1 : ¬ (64 : Int) < (n : Int) := by omega
      have HCF := Lib.hid (fun W A3 M c3 l hc hM hm hl => contains_any W w.heap.size A A3 n c M c3 l hc hM hm hl)
      have HZ1 := Lib.hid hz1
      have HC1 := Lib.hid hc1
      have hrl : ∀ i, i < n → (rowOf (gph n O T) i).length ≤ 1000000 := fun i hi => by rw [gph_row _ _ hi]; have := nxt_length n O T (i : Int); omega
      have HRL := Lib.hid hrl
      clear h hb1 hz1 h0 h64 hrl
      generalize chk n (gph n O T) = y at HBAD HGOOD ⊢
      generalize gph n O T = g at HG HBAD HGOOD HLN HRL
      go_enter Try.func29, Try.ntmps29
      go_wp2_with (go_at_call 56; refine HG.out.mono ?_; rintro e w2 ⟨A2, c2, rfl, hg2, hb2⟩; have HB2 := Lib.hid hb2; have HCR := Lib.hid (fun i (hi : i < n) => hg2.reads HLN.out hi); have hc2 : w2.cell? ⟨w.heap.size, 0, none⟩ = some (.slice A n c) := (hb2.cell HZ1.out).trans hc1; clear hg2 hb2 hc1 HG)
      go_loop [16] (fun i => ∃ k : Nat, k ≤ n ∧ i = .int .i64 (k : Int) ∧ Hid (∀ i, i < k → (rowOf g i).any (lv n) = false)) (fun i => n - (intOf i).toNat)
      case atStart => exact ⟨0, Nat.zero_le _, rfl, Lib.hid (fun i hi => by omega)⟩
      case round =>
        obtain ⟨k, hk, rfl, HO⟩ := hrel
        by_cases hlt : k < n
        · obtain ⟨ad, A', c', rfl, hcell, hm, hel⟩ := HCR.out k hlt
          have hkI : (k : Int) < (n : Int) := by omega
          have HX := Lib.hid (HCF.out w2 A' (rowOf g k).length c' (rowOf g k) hc2 rfl (HRL.out k hlt) hel)
          cases hb : (rowOf g k).any (lv n) with
          | true =>
            rw [hb] at HX
            have HF := Lib.hid (HBAD.out k hlt hb)
            generalize (rowOf g k).length = M at hcell hm HX
            clear hb hel hm
            go_wp2_with (go_at_call 57; refine HX.out.mono ?_; rintro e w9 ⟨rfl, rfl⟩)
            go_ret
            exact ⟨ret_int (by rw [HF.out]), HB1.out.trans (HB2.out.mono (Nat.le_of_lt HZ1.out))⟩
          | false =>
            rw [hb] at HX
            have HO2 := Lib.hid (show ∀ j, j < k + 1 → (rowOf g j).any (lv n) = false from fun j hj => by
              by_cases e : j = k
              · subst e; exact hb
              · exact HO.out j (by omega))
            generalize (rowOf g k).length = M at hcell hm HX
            clear hb hel hm HO
            go_wp2_with (go_at_call 57; refine HX.out.mono ?_; rintro e w9 ⟨rfl, rfl⟩)
            go_round
            case rel => exact ⟨k + 1, by omega, by go_num, HO2⟩
            case measure => simp [intOf]; omega
        · obtain rfl : k = n := by omega
          have HF := Lib.hid (HGOOD.out HO.out)
          go_wp2_with fail
          go_ret
          exact ⟨ret_int (by rw [HF.out]), HB1.out.trans (HB2.out.mono (Nat.le_of_lt HZ1.out))⟩

end Go.Proofs.Ytckpbdphilifoaa.By
