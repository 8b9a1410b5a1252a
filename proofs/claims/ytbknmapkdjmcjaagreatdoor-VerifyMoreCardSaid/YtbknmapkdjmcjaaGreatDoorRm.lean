/-
  WALKS: the reader's Num and Signed (functions 27, 28), whatever the reader and the width.
-/
import Derived.Test.YtbknmapkdjmcjaaGreatDoorRn
namespace Go.Proofs.YtbknmapkdjmcjaaGreatDoor.By
open Go.ChangeShapes Go.WideShapes Go.ChangeAt Go.RowKit
open Mem

/-- May so many bytes be taken as a number? -/
def fitsB (l : List UInt8) (p : Nat) (good : Bool) (k : Int) : Bool := good && decide (1 ≤ k ∧ k ≤ 8 ∧ p + k ≤ l.length)

/-- The number that bytes are, its first byte with a sign, or without. -/
def numV (sg : Bool) : List UInt8 → Int
  | [] => 0
  | x :: r => acc (if sg then sgn x.toNat else x.toNat) r

def readV (sg : Bool) (l : List UInt8) (p : Nat) (good : Bool) (k : Int) : Int := if fitsB l p good k = true then numV sg ((l.drop p).take k.toNat) else 0
def readP (l : List UInt8) (p : Nat) (good : Bool) (k : Int) : Nat := if fitsB l p good k = true then p + k.toNat else p

/-- What a read of a number leaves. -/
def Read (sg : Bool) (w : World) (g : Nat) (A : Option Addr) (c : Nat) (l : List UInt8) (p : Nat) (good : Bool) (k : Int) (e : Ending) (w' : World) : Prop :=
  e = .returned (.int .i64 (readV sg l p good k)) ∧ Rdr w' g A c l (readP l p good k) (fitsB l p good k) ∧ w.grownBy w' (some g)

theorem only_spoiled (w : World) (g q : Nat) : w.grownBy ((w.setCell ⟨g, 2, none⟩ (.bool false)).drewN q) (some g) := only_drewN (only_set (only_refl w g) 2 _) q
theorem only_moved (w : World) (g q : Nat) (u : Value) : w.grownBy ((w.setCell ⟨g, 1, none⟩ u).drewN q) (some g) := only_drewN (only_set (only_refl w g) 1 _) q

/-- The calls of 'number' behind Num and Signed. -/
theorem read_core (sg : Bool) (F : Nat) (hF : F = if sg then 304 else 250) (w : World) (g : Nat) (A : Option Addr) (c : Nat) (l : List UInt8) (p : Nat) (good : Bool) (h : Rdr w g A c l p good) (k : Int) :
    Calls Tryz.prog 248 #[.func (.func 249) #[.pointer (some ⟨g, 0, none⟩)] #[], .int .i64 k, .func (.func F) #[] #[]] w (Read sg w g A c l p good k) := by
  cases good with
  | false =>
    have hf : fitsB l p false k = false := rfl
    refine (num_bad w k (.func F) _ (n41_bad w g A c l p h k)).mono ?_
    rintro e w' ⟨rfl, rfl⟩
    unfold Read readV readP
    rw [hf]
    exact ⟨rfl, h, only_refl w g⟩
  | true =>
    by_cases hk : 1 ≤ k ∧ k ≤ 8
    · obtain ⟨j, rfl⟩ := Int.eq_ofNat_of_zero_le (show 0 ≤ k by omega)
      by_cases hp : (p : Int) + j ≤ l.length
      · have hf : fitsB l p true j = true := by simp [fitsB]; omega
        obtain ⟨x, r, hx⟩ : ∃ x r, (l.drop p).take j = x :: r := by
          have hn : ((l.drop p).take j).length = j := by rw [List.length_take, List.length_drop]; omega
          cases hq : (l.drop p).take j with
          | nil => rw [hq] at hn; simp at hn; omega
          | cons x r => exact ⟨x, r, rfl⟩
        have hj : j = r.length + 1 := by
          have hn : ((l.drop p).take j).length = j := by rw [List.length_take, List.length_drop]; omega
          rw [hx] at hn; simpa using hn.symm
        have hok := n41_ok w g A c l p h j hk.1 hk.2 (by omega)
        rw [hx] at hok
        have hfin : ∀ e w', (e = .returned (.int .i64 (acc (if sg then sgn x.toNat else x.toNat) r)) ∧ ∃ q, (w.setCell ⟨g, 1, none⟩ (.int .i64 (p + j : Nat))).drewN q = w') → Read sg w g A c l p true j e w' := by
          rintro e w' ⟨rfl, q, rfl⟩
          unfold Read readV readP
          rw [hf, if_pos rfl, if_pos rfl, Int.toNat_natCast, hx]
          exact ⟨rfl, (h.moved (p + j) (by omega)).drewN q, only_moved w g q _⟩
        cases sg with
        | false =>
          subst hF
          exact (num_ok42 w g p x r j hj (by omega) _ hok).mono fun e w' hh => hfin e w' (by simpa using hh)
        | true =>
          subst hF
          exact (num_ok43 w g p x r j hj (by omega) _ hok).mono fun e w' hh => hfin e w' (by simpa using hh)
      · have hf : fitsB l p true j = false := by simp [fitsB]; omega
        refine (num_not w _ j (.func F) _ (n41_short w g A c l p h j hk.1 hk.2 (by omega))).mono ?_
        rintro e w' ⟨rfl, q, rfl⟩
        unfold Read readV readP
        rw [hf]
        exact ⟨rfl, h.spoiled.drewN q, only_spoiled w g q⟩
    · have hf : fitsB l p true k = false := by simp [fitsB]; omega
      refine (num_not w (w.setCell ⟨g, 2, none⟩ (.bool false)) k (.func F) _ ((n41_not w g A c l p h k (by omega)).mono fun e w' hh => ⟨hh.1, 0, hh.2⟩)).mono ?_
      rintro e w' ⟨rfl, q, rfl⟩
      unfold Read readV readP
      rw [hf]
      exact ⟨rfl, h.spoiled.drewN q, only_spoiled w g q⟩

theorem num_any (w : World) (g : Nat) (A : Option Addr) (c : Nat) (l : List UInt8) (p : Nat) (good : Bool) (h : Rdr w g A c l p good) (k : Int) :
    Calls Tryz.prog 190 #[.pointer (some ⟨g, 0, none⟩), .int .i64 k] w (Read false w g A c l p good k) := by
  have H := Lib.hid (read_core false 250 rfl w g A c l p good h k)
  clear h
  go_enter Tryz.func190, Tryz.ntmps190
  go_wp2_with fail
  refine H.out.mono ?_
  rintro e w1 ⟨rfl, hr, hg⟩
  go_wp2
  go_ret
  exact ⟨rfl, hr, hg⟩

theorem signed_any (w : World) (g : Nat) (A : Option Addr) (c : Nat) (l : List UInt8) (p : Nat) (good : Bool) (h : Rdr w g A c l p good) (k : Int) :
    Calls Tryz.prog 269 #[.pointer (some ⟨g, 0, none⟩), .int .i64 k] w (Read true w g A c l p good k) := by
  have H := Lib.hid (read_core true 304 rfl w g A c l p good h k)
  clear h
  go_enter Tryz.func269, Tryz.ntmps269
  go_wp2_with fail
  refine H.out.mono ?_
  rintro e w1 ⟨rfl, hr, hg⟩
  go_wp2
  go_ret
  exact ⟨rfl, hr, hg⟩

theorem num_nil (w : World) (k : Int) : Calls Tryz.prog 190 #[.pointer none, .int .i64 k] w fun e w' => e = .returned (.int .i64 0) ∧ w = w' := by
  have H := Lib.hid (num_bad w k (.func 250) _ (n41_nil k w))
  go_enter Tryz.func190, Tryz.ntmps190
  go_wp2_with fail
  refine H.out.mono ?_
  rintro e w1 ⟨rfl, rfl⟩
  go_wp2
  go_ret
  exact ⟨rfl, rfl⟩

theorem signed_nil (w : World) (k : Int) : Calls Tryz.prog 269 #[.pointer none, .int .i64 k] w fun e w' => e = .returned (.int .i64 0) ∧ w = w' := by
  have H := Lib.hid (num_bad w k (.func 304) _ (n41_nil k w))
  go_enter Tryz.func269, Tryz.ntmps269
  go_wp2_with fail
  refine H.out.mono ?_
  rintro e w1 ⟨rfl, rfl⟩
  go_wp2
  go_ret
  exact ⟨rfl, rfl⟩
end Go.Proofs.YtbknmapkdjmcjaaGreatDoor.By
