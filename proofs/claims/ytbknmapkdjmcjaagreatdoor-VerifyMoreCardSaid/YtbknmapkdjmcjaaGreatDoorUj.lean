/-
  WALKS of layer 14: Check, and the document's own. WALKS of layer 14: Check, and the document's own. WALKS of layer 14: the document's own Check.
-/
import Derived.Test.YtbknmapkdjmcjaaGreatDoorUf
import Derived.Test.YtbknmapkdjmcjaaGreatDoorGp
namespace Go.Proofs.YtbknmapkdjmcjaaGreatDoor.By
open Go.RowKit
open Mem Gm Rf

/-- A place that the code has not. -/
def lv (n : Nat) (x : Int) : Bool := !(decide (0 ≤ x) && decide (x < (n : Int)))

theorem leaves_any (W : World) (pb : Nat) (A : Option Addr) (n c : Nat) (hc : W.cell? ⟨pb, 0, none⟩ = some (.slice A n c)) (x : Int) :
    Calls Tryz.prog 214 #[.int .i64 x, .pointer (some ⟨pb, 0, none⟩)] W fun e w' => e = .returned (.bool (lv n x)) ∧ W = w' := by
  have HP := Lib.hid (fplace_any A n c x)
  unfold lv
  generalize (decide (0 ≤ x) && decide (x < (n : Int))) = bl at HP
  go_enter Tryz.func214, Tryz.ntmps214
  go_wp2_with (go_at_call 215; refine (HP.out _).mono ?_; rintro e w9 ⟨rfl, rfl⟩)
  go_ret
  exact ⟨rfl, rfl⟩

def Els (W : World) (A : Option Addr) (M : Nat) (l : List Int) : Prop := ∀ j, j < M → ∃ ad, A = some ad ∧ W.cell? (ad.add j) = some (.int .i64 (el l j))

theorem any_el (l : List Int) (p : Int → Bool) : l.any p = true ↔ ∃ j, j < l.length ∧ p (el l j) = true := by
  rw [List.any_eq_true]
  constructor
  · rintro ⟨x, hx, hp⟩
    obtain ⟨j, hj, rfl⟩ := List.getElem_of_mem hx
    exact ⟨j, hj, by rw [← el_at hj]; exact hp⟩
  · rintro ⟨j, hj, hp⟩
    exact ⟨l[j], List.getElem_mem _, by rw [el_at hj]; exact hp⟩

def GAn (n : Nat) (g : List (List Int)) (w : World) (e : Ending) (w' : World) : Prop := ∃ A c, e = .returned (.slice A n c) ∧ Gr w' w'.heap.size (.slice A n c) g ∧ Below w.heap.size w w'
theorem GAns.n {n : Nat} {O T : Nat → Int} {w w' : World} {e : Ending} (h : GAns w (gph n O T) e w') : GAn n (gph n O T) w e w' := by
  unfold GAns at h
  rw [gph_length] at h
  exact h

theorem alloc1 (w : World) (o : Obj) : Below w.heap.size w (w.alloc o) := (Below.refl _ w).alloc (Nat.le_refl _) o

set_option maxHeartbeats 1000000 in
theorem index_any (W : World) (pb : Nat) (A A3 : Option Addr) (n c M c3 : Nat) (l : List Int) (hc : W.cell? ⟨pb, 0, none⟩ = some (.slice A n c)) (hM : l.length = M) (hm : M ≤ 1000000) (hl : Els W A3 M l) :
    Calls Tryz.prog 212 #[.slice A3 M c3, .func (.func 214) #[] #[.pointer (some ⟨pb, 0, none⟩)]] W fun e w' => ∃ r : Int, e = .returned (.int .i64 r) ∧ decide (0 ≤ r) = l.any (lv n) ∧ W = w' := by
  have HL := Lib.hid (leaves_any W pb A n c hc)
  have HE := Lib.hid hl
  have HM := Lib.hid hM
  clear hc hl hM
  go_enter Tryz.func212, Tryz.ntmps212
  go_wp2_with fail
  go_loop [8] (fun i => ∃ k : Nat, k ≤ M ∧ i = .int .i64 (k : Int) ∧ Hid (∀ j, j < k → lv n (el l j) = false)) (fun i => M - (intOf i).toNat)
  case atStart => exact ⟨0, Nat.zero_le _, rfl, Lib.hid (fun j hj => by omega)⟩
  case round =>
    obtain ⟨k, hk, rfl, HO⟩ := hrel
    by_cases hlt : k < M
    · obtain ⟨ad, rfl, hx⟩ := HE.out k hlt
      have hkI : (k : Int) < (M : Int) := by omega
      obtain ⟨x, hxe⟩ : ∃ x, el l k = x := ⟨_, rfl⟩
      rw [hxe] at hx
      cases hb : lv n x with
      | true =>
        have HC := Lib.hid (HL.out x)
        rw [hb] at HC
        have HF := Lib.hid (show l.any (lv n) = true from (any_el l _).2 ⟨k, by rw [HM.out]; exact hlt, by rw [hxe]; exact hb⟩)
        clear hxe hb
        go_wp2_with (go_at_call 214; refine HC.out.mono ?_; rintro e w9 ⟨rfl, rfl⟩)
        go_ret
        exact ⟨k, rfl, by rw [HF.out]; simp, rfl⟩
      | false =>
        have HC := Lib.hid (HL.out x)
        rw [hb] at HC
        have HO2 := Lib.hid (show ∀ j, j < k + 1 → lv n (el l j) = false from fun j hj => by
          by_cases e : j = k
          · subst e; rw [hxe]; exact hb
          · exact HO.out j (by omega))
        clear hxe hb HO
        go_wp2_with (go_at_call 214; refine HC.out.mono ?_; rintro e w9 ⟨rfl, rfl⟩)
        go_round
        case rel => exact ⟨k + 1, by omega, by go_num, HO2⟩
        case measure => simp [intOf]; omega
    · obtain rfl : k = M := by omega
      have HF := Lib.hid (show l.any (lv n) = false by
        rw [Bool.eq_false_iff]
        intro h
        obtain ⟨j, hj, hp⟩ := (any_el l _).1 h
        rw [HM.out] at hj
        rw [HO.out j hj] at hp
        cases hp)
      go_wp2_with fail
      go_ret
      exact ⟨-1, rfl, by rw [HF.out]; rfl, rfl⟩

theorem contains_any (W : World) (pb : Nat) (A A3 : Option Addr) (n c M c3 : Nat) (l : List Int) (hc : W.cell? ⟨pb, 0, none⟩ = some (.slice A n c)) (hM : l.length = M) (hm : M ≤ 1000000) (hl : Els W A3 M l) :
    Calls Tryz.prog 128 #[.slice A3 M c3, .func (.func 214) #[] #[.pointer (some ⟨pb, 0, none⟩)]] W fun e w' => e = .returned (.bool (l.any (lv n))) ∧ W = w' := by
  have HI := Lib.hid (index_any W pb A A3 n c M c3 l hc hM hm hl)
  clear hc hl hM
  go_enter Tryz.func128, Tryz.ntmps128
  go_wp2_with (go_at_call 212; refine HI.out.mono ?_; rintro e w9 ⟨r, rfl, hr, rfl⟩; have HR := Lib.hid hr; clear hr)
  go_ret
  exact ⟨ret_bool (by rw [← HR.out]), rfl⟩

/-- What Check answers. -/
def chk (n : Nat) (g : List (List Int)) : Int := if n = 0 then 3 else if 64 < n then 6 else if (∃ i, i < n ∧ (rowOf g i).any (lv n) = true) then 10 else 0

end Go.Proofs.YtbknmapkdjmcjaaGreatDoor.By

namespace Go.Proofs.YtbknmapkdjmcjaaGreatDoor.By
open Go.RowKit
open Mem Gm Rf

def CAns (w : World) (x : Int) (e : Ending) (w' : World) : Prop := e = .returned (.int .i64 x) ∧ Below w.heap.size w w'

theorem chk_bad {n : Nat} {g : List (List Int)} (h0 : ¬ n = 0) (h1 : ¬ 64 < n) {i : Nat} (hi : i < n) (h : (rowOf g i).any (lv n) = true) : chk n g = 10 := by
  unfold chk
  rw [if_neg h0, if_neg h1, if_pos ⟨i, hi, h⟩]

theorem chk_good {n : Nat} {g : List (List Int)} (h0 : ¬ n = 0) (h1 : ¬ 64 < n) (h : ∀ i, i < n → (rowOf g i).any (lv n) = false) : chk n g = 0 := by
  unfold chk
  rw [if_neg h0, if_neg h1, if_neg]
  rintro ⟨i, hi, h2⟩
  rw [h i hi] at h2; cases h2

set_option maxRecDepth 100000 in
set_option maxHeartbeats 2000000 in
theorem fcheck_any (w : World) (A : Option Addr) (n c : Nat) (O T : Nat → Int) (h : Cd w w.heap.size A n c O T) :
    Calls Tryz.prog 132 #[.slice A n c] w (CAns w (chk n (gph n O T))) := by
  obtain ⟨W1, hW1⟩ : ∃ W1, w.alloc (.cells #[.slice A n c] 24) = W1 := ⟨_, rfl⟩
  have hb1 : Below w.heap.size w W1 := by rw [← hW1]; exact alloc1 w _
  have hz1 : w.heap.size < W1.heap.size := by rw [← hW1]; simp
  have hc1 : W1.cell? ⟨w.heap.size, 0, none⟩ = some (.slice A n c) := by rw [← hW1]; exact (Blk.new w _ _).cell 0
  have HB1 := Lib.hid hb1
  by_cases h0 : n = 0
  · have hx : chk n (gph n O T) = 3 := by unfold chk; rw [if_pos h0]
    rw [hx]
    subst h0
    clear hx h hb1 hz1
    go_enter Tryz.func132, Tryz.ntmps132
    go_wp2_with fail
    go_ret
    exact ⟨rfl, HB1.out⟩
  · by_cases h64 : 64 < n
    · have hx : chk n (gph n O T) = 6 := by unfold chk; rw [if_neg h0, if_pos h64]
      rw [hx]
      have k0 : ((n : Int) == 0) = false := by simp; omega
      have k1 : (64 : Int) < (n : Int) := by omega
      clear hx h hb1 hz1 h0 h64
      go_enter Tryz.func132, Tryz.ntmps132
      go_wp2_with fail
      go_ret
      exact ⟨rfl, HB1.out⟩
    · have HG := Lib.hid ((graph_any W1 A n c O T ((h.below hb1).more hb1.size) (by omega)).mono fun _ _ hh => hh.n)
      have HBAD := Lib.hid (fun i (hi : i < n) (hh : (rowOf (gph n O T) i).any (lv n) = true) => chk_bad h0 h64 hi hh)
      have HGOOD := Lib.hid (fun (hh : ∀ i, i < n → (rowOf (gph n O T) i).any (lv n) = false) => chk_good (g := gph n O T) h0 h64 hh)
      have HLN := Lib.hid (gph_length n O T)
      have k0 : ((n : Int) == 0) = false := by simp; omega
      have k1 : ¬ (64 : Int) < (n : Int) := by omega
      have HCF := Lib.hid (fun W A3 M c3 l hc hM hm hl => contains_any W w.heap.size A A3 n c M c3 l hc hM hm hl)
      have HZ1 := Lib.hid hz1
      have HC1 := Lib.hid hc1
      have hrl : ∀ i, i < n → (rowOf (gph n O T) i).length ≤ 1000000 := fun i hi => by rw [gph_row _ _ hi]; have := nxt_length n O T (i : Int); omega
      have HRL := Lib.hid hrl
      clear h hb1 hz1 h0 h64 hrl
      generalize chk n (gph n O T) = y at HBAD HGOOD ⊢
      generalize gph n O T = g at HG HBAD HGOOD HLN HRL
      go_enter Tryz.func132, Tryz.ntmps132
      go_wp2_with (go_at_call 216; refine HG.out.mono ?_; rintro e w2 ⟨A2, c2, rfl, hg2, hb2⟩; have HB2 := Lib.hid hb2; have HCR := Lib.hid (fun i (hi : i < n) => hg2.reads HLN.out hi); have hc2 : w2.cell? ⟨w.heap.size, 0, none⟩ = some (.slice A n c) := (hb2.cell HZ1.out).trans hc1; clear hg2 hb2 hc1 HG)
      go_loop [16] (fun i => ∃ k : Nat, k ≤ n ∧ i = .int .i64 (k : Int) ∧ Hid (∀ i, i < k → (rowOf g i).any (lv n) = false)) (fun i => n - (intOf i).toNat)
      case atStart => exact ⟨0, Nat.zero_le _, rfl, Lib.hid (fun i hi => by omega)⟩
      case round =>
        obtain ⟨k, hk, rfl, HO⟩ := hrel
        by_cases hlt : k < n
        · obtain ⟨ad, A', c', rfl, hcell, hm, hel⟩ := HCR.out k hlt
          have hkI : (k : Int) < (n : Int) := by omega
          have HX := Lib.hid (HCF.out w2 A' (rowOf g k).length c' (rowOf g k) hc2 rfl (HRL.out k hlt) hel)
          cases hb : (rowOf g k).any (lv n) with
          | true =>
            rw [hb] at HX
            have HF := Lib.hid (HBAD.out k hlt hb)
            generalize (rowOf g k).length = M at hcell hm HX
            clear hb hel hm
            go_wp2_with (go_at_call 128; refine HX.out.mono ?_; rintro e w9 ⟨rfl, rfl⟩)
            go_ret
            exact ⟨ret_int (by rw [HF.out]), HB1.out.trans (HB2.out.mono (Nat.le_of_lt HZ1.out))⟩
          | false =>
            rw [hb] at HX
            have HO2 := Lib.hid (show ∀ j, j < k + 1 → (rowOf g j).any (lv n) = false from fun j hj => by
              by_cases e : j = k
              · subst e; exact hb
              · exact HO.out j (by omega))
            generalize (rowOf g k).length = M at hcell hm HX
            clear hb hel hm HO
            go_wp2_with (go_at_call 128; refine HX.out.mono ?_; rintro e w9 ⟨rfl, rfl⟩)
            go_round
            case rel => exact ⟨k + 1, by omega, by go_num, HO2⟩
            case measure => simp [intOf]; omega
        · obtain rfl : k = n := by omega
          have HF := Lib.hid (HGOOD.out HO.out)
          go_wp2_with fail
          go_ret
          exact ⟨ret_int (by rw [HF.out]), HB1.out.trans (HB2.out.mono (Nat.le_of_lt HZ1.out))⟩

end Go.Proofs.YtbknmapkdjmcjaaGreatDoor.By

namespace Go.Proofs.YtbknmapkdjmcjaaGreatDoor.By
open Go.RowKit
open Mem Gm Rf

theorem els_row {W : World} {A : Option Addr} {c M : Nat} {l : List Int} (hM : l.length = M) (h : SlV W W.heap.size (.slice A M c) (ints l)) : Els W A M l := fun j hj => by
  rw [← hM] at h
  rcases ints_row h with ⟨e, _⟩ | ⟨ad, e, _, hc⟩
  · rw [e] at hM; simp at hM; omega
  · exact ⟨ad, e, hc j (by omega)⟩

theorem lv_cases {n : Nat} {x : Int} (h : lv n x = true) : x < 0 ∨ (¬ x < 0 ∧ (n : Int) ≤ x) := by
  unfold lv at h
  rw [Bool.not_eq_true', Bool.and_eq_false_iff, decide_eq_false_iff_not, decide_eq_false_iff_not] at h
  omega
theorem lv_not {n : Nat} {x : Int} (h : lv n x = false) : ¬ x < 0 ∧ ¬ (n : Int) ≤ x := by
  unfold lv at h
  rw [Bool.not_eq_false', Bool.and_eq_true, decide_eq_true_eq, decide_eq_true_eq] at h
  omega

set_option maxRecDepth 100000 in
set_option maxHeartbeats 2000000 in
theorem rfcheck_any (w : World) (A : Option Addr) (n c : Nat) (O T : Nat → Int) (h : Cd w w.heap.size A n c O T) :
    Calls Tryz.prog 146 #[.slice A n c] w (CAns w (chk n (gph n O T))) := by
  by_cases h0 : n = 0
  · have hx : chk n (gph n O T) = 3 := by unfold chk; rw [if_pos h0]
    rw [hx]
    subst h0
    clear hx h
    go_enter Tryz.func146, Tryz.ntmps146
    go_wp2_with fail
    go_ret
    exact ⟨rfl, Below.refl _ _⟩
  · by_cases h64 : 64 < n
    · have hx : chk n (gph n O T) = 6 := by unfold chk; rw [if_neg h0, if_pos h64]
      rw [hx]
      have k0 : ((n : Int) == 0) = false := by simp; omega
      have k1 : (64 : Int) < (n : Int) := by omega
      clear hx h h0 h64
      go_enter Tryz.func146, Tryz.ntmps146
      go_wp2_with fail
      go_ret
      exact ⟨rfl, Below.refl _ _⟩
    · have HN := Lib.hid (fun W (hb : Below w.heap.size w W) (i : Int) => rnext_any W A n c O T ((h.below hb).more hb.size) i)
      have HBAD := Lib.hid (fun i (hi : i < n) (hh : (rowOf (gph n O T) i).any (lv n) = true) => chk_bad h0 h64 hi hh)
      have HGOOD := Lib.hid (fun (hh : ∀ i, i < n → (rowOf (gph n O T) i).any (lv n) = false) => chk_good (g := gph n O T) h0 h64 hh)
      have k0 : ((n : Int) == 0) = false := by simp; omega
      have k1 : ¬ (64 : Int) < (n : Int) := by omega
      have HN64 := Lib.hid (show n ≤ 64 by omega)
      have HROW := Lib.hid (fun i (hi : i < n) => gph_row O T hi)
      clear h h0 h64
      generalize chk n (gph n O T) = y at HBAD HGOOD ⊢
      generalize gph n O T = g at HBAD HGOOD HROW
      go_enter Tryz.func146, Tryz.ntmps146
      go_wp2_with fail
      clear k0 k1
      go_loopw [3] (fun i wr => ∃ k : Nat, k ≤ n ∧ i = .int .i64 (k : Int) ∧ Hid (∀ i, i < k → (rowOf g i).any (lv n) = false) ∧ Below w.heap.size w wr) (fun i _ => n - (intOf i).toNat)
      case atStart => exact ⟨0, Nat.zero_le _, rfl, Lib.hid (fun i hi => by omega), Below.refl _ _⟩
      case round =>
        obtain ⟨k, hk, rfl, HO, hbel⟩ := hrel
        by_cases hlt : k < n
        · have hkI : (k : Int) < (n : Int) := by omega
          have hro := HROW.out k hlt
          have HKL := Lib.hid hlt
          have HX := Lib.hid (HN.out wr hbel (k : Int))
          rw [← hro] at HX
          have hl2 : (rowOf g k).length ≤ 2 := by rw [hro]; exact nxt_length ..
          obtain ⟨l, hl⟩ : ∃ l, rowOf g k = l := ⟨_, rfl⟩
          rw [hl] at HX hl2
          have HL := Lib.hid hl
          have HL2 := Lib.hid hl2
          have HBE := Lib.hid hbel
          clear hbel hro hl hl2
          go_wp2_with (go_at_call 225; refine HX.out.mono ?_; rintro e w2 ⟨v2, rfl, hrw, hb2⟩; obtain ⟨A2, c2, rfl, hs2⟩ := hrw.slv; obtain ⟨M, hM⟩ : ∃ M, l.length = M := ⟨_, rfl⟩; have HM := Lib.hid hM; rw [hM] at hs2 ⊢; have HE := Lib.hid (els_row hM hs2); have hM2 : M ≤ 2 := (by rw [← hM]; exact HL2.out); have HB2 := Lib.hid hb2; clear hs2 hM hb2 hrw)
          go_loop [5] (fun i => ∃ j : Nat, j ≤ M ∧ i = .int .i64 (j : Int) ∧ Hid (∀ i, i < j → lv n (el l i) = false)) (fun i => M - (intOf i).toNat)
          case atStart => exact ⟨0, Nat.zero_le _, rfl, Lib.hid (fun i hi => by omega)⟩
          case round =>
            obtain ⟨j, hj, rfl, HI⟩ := hrel
            by_cases hjt : j < M
            · obtain ⟨ad, rfl, hx⟩ := HE.out j hjt
              have hjI : (j : Int) < (M : Int) := by omega
              obtain ⟨x, hxe⟩ : ∃ x, el l j = x := ⟨_, rfl⟩
              rw [hxe] at hx
              cases hb : lv n x with
              | true =>
                have HF := Lib.hid (HBAD.out k hlt (by rw [HL.out]; exact (any_el _ _).2 ⟨j, by rw [HM.out]; exact hjt, by rw [hxe]; exact hb⟩))
                have hcs := lv_cases hb
                clear hxe hb
                rcases hcs with hcs | ⟨hcs, hcs2⟩
                · go_wp2_with fail
                  go_ret
                  exact ⟨ret_int (by rw [HF.out]), HBE.out.trans (HB2.out.mono HBE.out.size)⟩
                · go_wp2_with fail
                  go_ret
                  exact ⟨ret_int (by rw [HF.out]), HBE.out.trans (HB2.out.mono HBE.out.size)⟩
              | false =>
                have HI2 := Lib.hid (show ∀ i, i < j + 1 → lv n (el l i) = false from fun i hi => by
                  by_cases e : i = j
                  · subst e; rw [hxe]; exact hb
                  · exact HI.out i (by omega))
                obtain ⟨hcs, hcs2⟩ := lv_not hb
                clear hxe hb HI
                go_wp2_with fail
                go_round
                case rel => exact ⟨j + 1, by omega, by go_num, HI2⟩
                case measure => simp [intOf]; omega
            · obtain rfl : j = M := by omega
              have HO2 := Lib.hid (show ∀ i, i < k + 1 → (rowOf g i).any (lv n) = false from fun i hi => by
                by_cases e : i = k
                · subst e
                  rw [HL.out, Bool.eq_false_iff]
                  intro hh
                  obtain ⟨i2, hi2, hp⟩ := (any_el l _).1 hh
                  rw [HM.out] at hi2
                  rw [HI.out i2 hi2] at hp
                  cases hp
                · exact HO.out i (by omega))
              have hk64 : (k : Int) < 64 := by have := HKL.out; have := HN64.out; omega
              clear HO HI
              go_wp2_with fail
              go_roundw
              case rel => exact ⟨k + 1, by have := HKL.out; omega, by go_num, HO2, HBE.out.trans (HB2.out.mono HBE.out.size)⟩
              case measure => have := HKL.out; simp [intOf]; omega
        · obtain rfl : k = n := by omega
          have HF := Lib.hid (HGOOD.out HO.out)
          have HBE := Lib.hid hbel
          clear hbel
          go_wp2_with fail
          go_ret
          exact ⟨ret_int (by rw [HF.out]), HBE.out⟩
end Go.Proofs.YtbknmapkdjmcjaaGreatDoor.By
