/-
  WALKS of layer 13: how many runs have begun, and At.
-/
import Derived.Test.YtckpbdphilifoaaWa
namespace Go.Proofs.Ytckpbdphilifoaa.By
open Go.RowKit
open Mem Gm Rf

def idxV (l : List Rn) (p : Int) (n : Nat) : Int := if bg l p < n then (bg l p : Int) else -1

set_option maxRecDepth 100000 in
set_option maxHeartbeats 2000000 in
theorem idxRun_any (w : World) (pb : Nat) (p : Int) (A : Option Addr) (n c : Nat) (l : List Rn) (hpl : pb < w.heap.size) (hc : w.cell? ⟨pb, 0, none⟩ = some (.int .i64 p)) (h : RnL w A n c l) :
    Calls Try.prog 61 #[.slice A n c, .func (.func 62) #[] #[.pointer (some ⟨pb, 0, none⟩)]] w fun e w' => e = .returned (.int .i64 (idxV l p n)) ∧ Below w.heap.size w w' := by
  have hn := h.few
  have HL := Lib.hid (show l.length = n from h.1)
  have HR := Lib.hid (fun W (hb : Below w.heap.size w W) i (hi : i < n) => (h.on hb).at_ hi)
  have HF := Lib.hid (fun W (hb : Below w.heap.size w W) x => above_any W pb p x (Nat.lt_of_lt_of_le hpl hb.size) ((hb.cell hpl).trans hc))
  clear h hpl hc
  go_enter Try.func61, Try.ntmps61
  go_wp2_with fail
  go_loopw [8] (fun i wr => ∃ k : Nat, k ≤ n ∧ i = .int .i64 (k : Int) ∧ Hid (∀ j, j < k → (rnAt l j).1 ≤ p) ∧ Below w.heap.size w wr) (fun i _ => n - (intOf i).toNat)
  case atStart => exact ⟨0, Nat.zero_le _, rfl, Lib.hid (fun j hj => by omega), Below.refl _ _⟩
  case round =>
    obtain ⟨k, hk, rfl, HO, hbel⟩ := hrel
    by_cases hlt : k < n
    · have hkI : (k : Int) < (n : Int) := by omega
      obtain ⟨ad, rfl, _, c0, c1, c2, c3, c4⟩ := HR.out wr hbel k hlt
      have HX := Lib.hid (HF.out wr hbel (rnAt l k))
      have HBE := Lib.hid hbel
      by_cases hp : p < (rnAt l k).1
      · rw [decide_eq_true hp] at HX
        have HV := Lib.hid (bg_is HO.out (by rw [HL.out]; omega) (fun _ => hp))
        have HLT := Lib.hid hlt
        clear hp hbel
        generalize rnAt l k = x at HX c0 c1 c2 c3 c4
        go_wp2_with (go_at_call 62; refine HX.out.mono ?_; rintro e w9 ⟨rfl, b9⟩; have HB9 := Lib.hid (to_ HBE.out b9); clear b9)
        go_ret
        exact ⟨ret_int (by unfold idxV; rw [HV.out, if_pos HLT.out]), HB9.out⟩
      · rw [decide_eq_false hp] at HX
        have HO2 := Lib.hid (show ∀ j, j < k + 1 → (rnAt l j).1 ≤ p from fun j hj => by
          by_cases e : j = k
          · subst e; omega
          · exact HO.out j (by omega))
        clear hp hbel HO
        generalize rnAt l k = x at HX c0 c1 c2 c3 c4
        go_wp2_with (go_at_call 62; refine HX.out.mono ?_; rintro e w9 ⟨rfl, b9⟩; have HB9 := Lib.hid (to_ HBE.out b9); clear b9)
        go_roundw
        case rel => exact ⟨k + 1, by omega, by go_num, HO2, HB9.out⟩
        case measure => simp [intOf]; omega
    · obtain rfl : k = n := by omega
      have HV := Lib.hid (bg_is HO.out (by rw [HL.out]; omega) (fun hh => by rw [HL.out] at hh; omega))
      have HBE := Lib.hid hbel
      clear hbel
      go_wp2_with fail
      go_ret
      exact ⟨ret_int (by unfold idxV; rw [HV.out, if_neg (Nat.lt_irrefl _)]), HBE.out⟩

set_option maxRecDepth 100000 in
set_option maxHeartbeats 2000000 in
theorem begun_any (w : World) (p : Int) (A : Option Addr) (n c : Nat) (l : List Rn) (h : RnL w A n c l) :
    Calls Try.prog 37 #[.slice A n c, .int .i64 p] w fun e w' => e = .returned (.int .i64 (bg l p : Int)) ∧ Below w.heap.size w w' := by
  obtain ⟨W, hW⟩ : ∃ W, w.alloc (.cells #[.int .i64 p] 3) = W := ⟨_, rfl⟩
  have hB : Below w.heap.size w W := by rw [← hW]; exact alloc_ _ _
  have hz : w.heap.size < W.heap.size := by rw [← hW]; simp
  have h0 : W.cell? ⟨w.heap.size, 0, none⟩ = some (.int .i64 p) := by rw [← hW]; exact (Blk.new w _ _).cell 0
  have HX := Lib.hid (idxRun_any W w.heap.size p A n c l hz h0 (h.on hB))
  have hle : bg l p ≤ n := by rw [← h.1]; exact bg_le l p
  have HB := Lib.hid hB
  clear hB h0 hz h
  unfold idxV at HX
  generalize bg l p = k at HX hle
  by_cases hk : k < n
  · rw [if_pos hk] at HX
    have hk2 : ¬ (k : Int) < 0 := by omega
    clear hle hk
    go_enter Try.func37, Try.ntmps37
    go_wp2_with (go_at_call 61; refine HX.out.mono ?_; rintro e w9 ⟨rfl, b9⟩; have HB9 := Lib.hid (to_ HB.out b9); clear b9)
    go_ret
    exact ⟨rfl, HB9.out⟩
  · rw [if_neg hk] at HX
    obtain rfl : k = n := by omega
    clear hle hk
    go_enter Try.func37, Try.ntmps37
    go_wp2_with (go_at_call 61; refine HX.out.mono ?_; rintro e w9 ⟨rfl, b9⟩; have HB9 := Lib.hid (to_ HB.out b9); clear b9)
    go_ret
    exact ⟨rfl, HB9.out⟩

theorem Blk.fr4 {w : World} {g : Nat} {t : TypeId} {cs : Array Value} (h : Blk w g t cs) : w.frozen? ⟨g, 0, none⟩ = false ∧ w.frozen? ⟨g, 1, none⟩ = false ∧ w.frozen? ⟨g, 2, none⟩ = false ∧ w.frozen? ⟨g, 3, none⟩ = false :=
  ⟨h.frozen 0, h.frozen 1, h.frozen 2, h.frozen 3⟩
theorem Blk.ce4 {w : World} {g : Nat} {t : TypeId} {a b c d : Value} (h : Blk w g t #[a, b, c, d]) : w.cell? ⟨g, 0, none⟩ = some a ∧ w.cell? ⟨g, 1, none⟩ = some b ∧ w.cell? ⟨g, 2, none⟩ = some c ∧ w.cell? ⟨g, 3, none⟩ = some d :=
  ⟨h.cell 0, h.cell 1, h.cell 2, h.cell 3⟩

/-- The row that holds at a place. -/
def rowV (l : List Rn) (p : Int) : Ro := if bg l p = 0 then ro0 else (rnAt l (bg l p - 1)).2
def hasV (l : List Rn) (p : Int) : Bool := decide (0 < bg l p)
def aggRo (r : Ro) : Value := .agg #[.int .i64 r.1, .int .i64 r.2.1, .bool r.2.2.1, .int .i64 r.2.2.2]

def AtAns (w : World) (l : List Rn) (p : Int) (e : Ending) (w' : World) : Prop := e = .returned (.tuple #[aggRo (rowV l p), .bool (hasV l p)]) ∧ Below w.heap.size w w'

set_option maxRecDepth 100000 in
set_option maxHeartbeats 2000000 in
theorem runAt_any (w : World) (p : Int) (A : Option Addr) (n c : Nat) (l : List Rn) (h : RnL w A n c l) :
    Calls Try.prog 16 #[.slice A n c, .int .i64 p] w (AtAns w l p) := by
  have hn := h.few
  obtain ⟨W, hW⟩ : ∃ W, w.alloc (.cells #[.int .i64 0, .int .i64 0, .bool false, .int .i64 0] 33) = W := ⟨_, rfl⟩
  have hB : Below w.heap.size w W := by rw [← hW]; exact alloc_ _ _
  have hz : w.heap.size < W.heap.size := by rw [← hW]; simp
  have hb0 : Blk W w.heap.size 33 #[.int .i64 0, .int .i64 0, .bool false, .int .i64 0] := by rw [← hW]; exact Blk.new w _ _
  have HX := Lib.hid (begun_any W p A n c l (h.on hB))
  have hle : bg l p ≤ n := by rw [← h.1]; exact bg_le l p
  have HB := Lib.hid hB
  have HR := Lib.hid (fun W (hb : Below w.heap.size w W) i (hi : i < n) => (h.on hb).at_ hi)
  have HZ := Lib.hid hz
  have HB0 := Lib.hid hb0
  obtain ⟨k, hk⟩ : ∃ k, bg l p = k := ⟨_, rfl⟩
  have HV := Lib.hid (show rowV l p = if k = 0 then ro0 else (rnAt l (k - 1)).2 by unfold rowV; rw [hk])
  have HV2 := Lib.hid (show hasV l p = decide (0 < k) by unfold hasV; rw [hk])
  rw [hk] at HX hle
  clear hB hz h hk hb0
  cases k with
  | zero =>
    go_enter Try.func16, Try.ntmps16
    go_wp2_with (go_at_call 37; refine HX.out.mono ?_; rintro e w9 ⟨rfl, b9⟩; have hb9 := HB0.out.below b9 HZ.out; obtain ⟨f0, f1, f2, f3⟩ := Blk.fr4 hb9; obtain ⟨k0, k1, k2, k3⟩ := Blk.ce4 hb9; have HB9 := Lib.hid (to_ HB.out b9); clear b9 hb9)
    refine bodyPost_ret (v := .tuple #[.agg #[.int .i64 0, .int .i64 0, .bool false, .int .i64 0], .bool false]) (by simp [results, Try.results16, go_sem, k0, k1, k2, k3]) rfl ⟨?_, ?_⟩
    · rw [HV.out, HV2.out]; rfl
    · exact (((HB9.out.setCell (p := ⟨w.heap.size, 0, none⟩) (Nat.le_refl _) _).setCell (p := ⟨w.heap.size, 1, none⟩) (Nat.le_refl _) _).setCell (p := ⟨w.heap.size, 2, none⟩) (Nat.le_refl _) _).setCell (p := ⟨w.heap.size, 3, none⟩) (Nat.le_refl _) _
  | succ m =>
    have hmn : m < n := by omega
    have hm1 : ((m + 1 : Nat) : Int) = (m : Int) + 1 := by omega
    have hmI : (m : Int) < (n : Int) := by omega
    rw [hm1] at HX
    rw [if_neg (by omega), Nat.add_sub_cancel] at HV
    obtain ⟨x, hx⟩ : ∃ x, rnAt l m = x := ⟨_, rfl⟩
    rw [hx] at HV
    have HR2 := Lib.hid (fun W hb => HR.out W hb m hmn)
    rw [hx] at HR2
    have hm0 : ((m : Int) + 1 == 0) = false := by simp; omega
    clear hm1 hx HR
    go_enter Try.func16, Try.ntmps16
    go_wp2_with (go_at_call 37; refine HX.out.mono ?_; rintro e w9 ⟨rfl, b9⟩; have hb9 := HB0.out.below b9 HZ.out; obtain ⟨f0, f1, f2, f3⟩ := Blk.fr4 hb9; obtain ⟨k0, k1, k2, k3⟩ := Blk.ce4 hb9; have HB9 := Lib.hid (to_ HB.out b9); obtain ⟨ad, rfl, _, c0, c1, c2, c3, c4⟩ := HR2.out w9 HB9.out; clear b9 hb9)
    refine bodyPost_ret (v := .tuple #[.agg #[.int .i64 x.2.1, .int .i64 x.2.2.1, .bool x.2.2.2.1, .int .i64 x.2.2.2.2], .bool true]) (by simp [results, Try.results16, go_sem, k0, k1, k2, k3]) rfl ⟨?_, ?_⟩
    · rw [HV.out, HV2.out]; simp [aggRo]
    · exact (((HB9.out.setCell (p := ⟨w.heap.size, 0, none⟩) (Nat.le_refl _) _).setCell (p := ⟨w.heap.size, 1, none⟩) (Nat.le_refl _) _).setCell (p := ⟨w.heap.size, 2, none⟩) (Nat.le_refl _) _).setCell (p := ⟨w.heap.size, 3, none⟩) (Nat.le_refl _) _
end Go.Proofs.Ytckpbdphilifoaa.By
