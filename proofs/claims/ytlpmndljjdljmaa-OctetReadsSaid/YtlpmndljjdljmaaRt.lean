/-
  WALK: the reader's Text (function 30), whatever the reader and the bound; bytes as a text.
-/
import Derived.Test.YtlpmndljjdljmaaRm
import Derived.Laws.BytesArg
import Derived.Laws.IdiomStrings
namespace Go.Proofs.Ytlpmndljjdljmaa.By
open Go.ChangeShapes Go.WideShapes Go.ChangeAt Go.RowKit
open Mem

/-- 'string(b)' of a slice that reads as bytes, nil or not. -/
theorem text_of {w : World} {B : Nat} {v : Value} {l : List UInt8} (h : SlV w B v (u8s l)) : (convert 22 9 v).run Try.prog w = .ok (.string ⟨l.toArray⟩) w := by
  generalize hu : u8s l = us at h
  cases h with
  | nil =>
    obtain rfl : l = [] := by simpa [u8s] using hu
    exact run_convert_bytes_nil w 22 5 Try.underlying22 Try.underlying5 0 0 9 Try.underlying9
  | at_ ad cap _ hc hm h =>
    subst hu
    rw [u8s_length]
    exact run_convert_bytes_back w 22 9 5 ad cap l Try.underlying22 Try.underlying5 Try.underlying9 fun j hj => (h j _ (by simp [u8s, hj])).2

/-- May the next text be taken? -/
def fitsT (l : List UInt8) (p : Nat) (good : Bool) (most : Int) : Bool := good && decide (∃ h : p < l.length, (l[p].toNat : Int) ≤ most ∧ p + 1 + l[p].toNat ≤ l.length)

def textV (l : List UInt8) (p : Nat) (good : Bool) (most : Int) : List UInt8 := if fitsT l p good most = true then (l.drop (p + 1)).take (l.getD p 0).toNat else []
def textP (l : List UInt8) (p : Nat) (good : Bool) (most : Int) : Nat := if fitsT l p good most = true then p + (1 + (l.getD p 0).toNat) else p

/-- What a read of a text leaves. -/
def ReadT (w : World) (g : Nat) (A : Option Addr) (c : Nat) (l : List UInt8) (p : Nat) (good : Bool) (most : Int) (e : Ending) (w' : World) : Prop :=
  e = .returned (.string ⟨(textV l p good most).toArray⟩) ∧ Rdr w' g A c l (textP l p good most) (fitsT l p good most) ∧ w.grownBy w' (some g)

theorem text_nil (w : World) (most : Int) : Calls Try.prog 13 #[.pointer none, .int .i64 most] w fun e w' => e = .returned (.string ByteArray.empty) ∧ w = w' := by
  have hcn := fun W => run_convert_bytes_nil (P := Try.prog) W 22 5 Try.underlying22 Try.underlying5 0 0 9 Try.underlying9
  go_enter Try.func13, Try.ntmps13
  go_wp2_with (first | (go_at_call 34; refine (ahead_nil _).mono ?_; rintro e w' ⟨rfl, rfl⟩) | (go_at_call 35; refine (take_nil _ _ _ _).mono ?_; rintro e w' ⟨rfl, rfl⟩))
  go_ret
  exact ⟨rfl, rfl⟩

theorem text_bad (w : World) (g : Nat) (A : Option Addr) (c : Nat) (l : List UInt8) (p : Nat) (h : Rdr w g A c l p false) (most : Int) :
    Calls Try.prog 13 #[.pointer (some ⟨g, 0, none⟩), .int .i64 most] w fun e w' => e = .returned (.string ByteArray.empty) ∧ w = w' := by
  have H := Lib.hid h
  clear h
  have hcn := fun W => run_convert_bytes_nil (P := Try.prog) W 22 5 Try.underlying22 Try.underlying5 0 0 9 Try.underlying9
  go_enter Try.func13, Try.ntmps13
  go_wp2_with (first | (go_at_call 34; refine (ahead_bad _ g A c l p H.out).mono ?_; rintro e w' ⟨rfl, rfl⟩) | (go_at_call 35; refine (take_bad _ g A c l p H.out _ _ _).mono ?_; rintro e w' ⟨rfl, rfl⟩))
  go_ret
  exact ⟨rfl, rfl⟩

theorem text_end (w : World) (g : Nat) (A : Option Addr) (c : Nat) (l : List UInt8) (p : Nat) (h : Rdr w g A c l p true) (hp : p = l.length) (most : Int) :
    Calls Try.prog 13 #[.pointer (some ⟨g, 0, none⟩), .int .i64 most] w fun e w' => e = .returned (.string ByteArray.empty) ∧ ∃ q, (w.setCell ⟨g, 2, none⟩ (.bool false)).drewN q = w' := by
  have H := Lib.hid h
  have HA := Lib.hid (ahead_end w g A c l p h hp)
  clear h hp
  have hcn := fun W => run_convert_bytes_nil (P := Try.prog) W 22 5 Try.underlying22 Try.underlying5 0 0 9 Try.underlying9
  go_enter Try.func13, Try.ntmps13
  go_wp2_with fail
  refine HA.out.mono ?_
  rintro e w' ⟨rfl, q, rfl⟩
  go_wp2_with (go_at_call 35; refine (take_not _ g A c l p (H.out.drewN q) _ _).mono ?_; rintro e w' ⟨rfl, rfl⟩)
  go_ret
  exact ⟨rfl, q, rfl⟩

theorem text_long (w : World) (g : Nat) (A : Option Addr) (c : Nat) (l : List UInt8) (p : Nat) (h : Rdr w g A c l p true) (hp : p < l.length) (most : Int) (hm : most < l[p].toNat) :
    Calls Try.prog 13 #[.pointer (some ⟨g, 0, none⟩), .int .i64 most] w fun e w' => e = .returned (.string ByteArray.empty) ∧ ∃ q, (w.setCell ⟨g, 2, none⟩ (.bool false)).drewN q = w' := by
  have H := Lib.hid h
  have HA := Lib.hid (ahead_some w g A c l p h hp)
  clear h
  generalize l[p].toNat = n at hm HA
  have hd : decide ((n : Int) ≤ most) = false := by simp; omega
  clear hp
  have hcn := fun W => run_convert_bytes_nil (P := Try.prog) W 22 5 Try.underlying22 Try.underlying5 0 0 9 Try.underlying9
  go_enter Try.func13, Try.ntmps13
  go_wp2_with fail
  refine HA.out.mono ?_
  rintro e w' ⟨rfl, q, rfl⟩
  go_wp2_with (go_at_call 35; refine (take_not _ g A c l p (H.out.drewN q) _ _).mono ?_; rintro e w' ⟨rfl, rfl⟩)
  go_ret
  exact ⟨rfl, q, rfl⟩

theorem text_short (w : World) (g : Nat) (A : Option Addr) (c : Nat) (l : List UInt8) (p : Nat) (h : Rdr w g A c l p true) (hp : p < l.length) (most : Int) (hm : l[p].toNat ≤ most) (hs : (l.length : Int) - p < 1 + l[p].toNat) :
    Calls Try.prog 13 #[.pointer (some ⟨g, 0, none⟩), .int .i64 most] w fun e w' => e = .returned (.string ByteArray.empty) ∧ ∃ q, (w.setCell ⟨g, 2, none⟩ (.bool false)).drewN q = w' := by
  have HA := Lib.hid (ahead_some w g A c l p h hp)
  have hx := l[p].toNat_lt
  generalize l[p].toNat = n at hm hs hx HA
  have HT := Lib.hid (fun q => take_short (w.drewN q) g A c l p (h.drewN q) 1 n (by omega) (by omega) (by omega))
  clear h
  have hd : decide ((n : Int) ≤ most) = true := by simp; omega
  clear hp
  have hcn := fun W => run_convert_bytes_nil (P := Try.prog) W 22 5 Try.underlying22 Try.underlying5 0 0 9 Try.underlying9
  go_enter Try.func13, Try.ntmps13
  go_wp2_with fail
  refine HA.out.mono ?_
  rintro e w' ⟨rfl, q, rfl⟩
  go_wp2_with (go_at_call 35; refine (HT.out q).mono ?_; rintro e w' ⟨rfl, q2, rfl⟩)
  go_ret
  exact ⟨rfl, q + q2, set_draws _ _ _ _ _⟩

theorem text_ok (w : World) (g : Nat) (A : Option Addr) (c : Nat) (l : List UInt8) (p : Nat) (h : Rdr w g A c l p true) (hp : p < l.length) (most : Int) (hm : l[p].toNat ≤ most) (hs : 1 + (l[p].toNat : Int) ≤ (l.length : Int) - p) :
    Calls Try.prog 13 #[.pointer (some ⟨g, 0, none⟩), .int .i64 most] w fun e w' => e = .returned (.string ⟨((l.drop (p + 1)).take l[p].toNat).toArray⟩) ∧ ∃ q, (w.setCell ⟨g, 1, none⟩ (.int .i64 (p + (1 + l[p].toNat) : Nat))).drewN q = w' := by
  have HA := Lib.hid (ahead_some w g A c l p h hp)
  have hx := l[p].toNat_lt
  have hus : ((l.drop (p + 1)).take l[p].toNat).length = l[p].toNat := by rw [List.length_take, List.length_drop]; omega
  generalize l[p].toNat = n at hm hs hx hus HA ⊢
  have HT := Lib.hid (fun q => take_ok (w.drewN q) g A c l p (h.drewN q) 1 n (by omega) (by omega) (by omega) (by omega))
  have HUS := Lib.hid hus
  clear h hus
  have hd : decide ((n : Int) ≤ most) = true := by simp; omega
  clear hp
  go_enter Try.func13, Try.ntmps13
  go_wp2_with fail
  refine HA.out.mono ?_
  rintro e w1 ⟨rfl, q, rfl⟩
  go_wp2_with fail
  refine (HT.out q).mono ?_
  rintro e w2 ⟨ad, cap, q2, rfl, hn, hcm, hrow, hw⟩
  generalize hU : (l.drop (p + 1)).take n = us at hrow HUS
  have hrow2 : Row w2 g ad (u8s us) := by
    rw [← hw]
    exact hrow.keep fun b hb => by
      rw [World.cell?_drewN]
      exact World.cell?_setCell_other (w.drewN q) ⟨g, 1, none⟩ b _ (fun e => by subst e; simp at hb)
  have hsl : SlV w2 g (.slice (some ad) n cap) (u8s us) := by
    have := SlV.at_ ad cap (u8s us) (by rw [u8s_length, HUS.out]; exact hn) hcm hrow2
    rwa [u8s_length, HUS.out] at this
  have hcv := text_of hsl
  have HW := Lib.hid hw
  have HU := Lib.hid hU
  clear hrow hrow2 hsl hw hU
  go_wp2
  go_ret
  exact ⟨by rw [HU.out]; rfl, q + q2, by rw [← HW.out]; exact set_draws _ _ _ _ _⟩

theorem text_read (w : World) (g : Nat) (A : Option Addr) (c : Nat) (l : List UInt8) (p : Nat) (good : Bool) (h : Rdr w g A c l p good) (most : Int) :
    Calls Try.prog 13 #[.pointer (some ⟨g, 0, none⟩), .int .i64 most] w (ReadT w g A c l p good most) := by
  have hno : fitsT l p good most = false → good = true → ∀ e w', (e = .returned (.string ByteArray.empty) ∧ ∃ q, (w.setCell ⟨g, 2, none⟩ (.bool false)).drewN q = w') → ReadT w g A c l p good most e w' := by
    rintro hf hg e w' ⟨rfl, q, rfl⟩
    unfold ReadT textV textP
    rw [hf]
    exact ⟨rfl, h.spoiled.drewN q, only_spoiled w g q⟩
  cases good with
  | false =>
    have hf : fitsT l p false most = false := rfl
    refine (text_bad w g A c l p h most).mono ?_
    rintro e w' ⟨rfl, rfl⟩
    unfold ReadT textV textP
    rw [hf]
    exact ⟨rfl, h, only_refl w g⟩
  | true =>
    by_cases hp : p < l.length
    · by_cases hm : (l[p].toNat : Int) ≤ most
      · by_cases hs : 1 + (l[p].toNat : Int) ≤ (l.length : Int) - p
        · have hf : fitsT l p true most = true := by
            simp only [fitsT, Bool.true_and, decide_eq_true_eq]
            exact ⟨hp, hm, by omega⟩
          refine (text_ok w g A c l p h hp most hm hs).mono ?_
          rintro e w' ⟨rfl, q, rfl⟩
          have hd : l.getD p 0 = l[p] := by simp [List.getD, hp]
          unfold ReadT textV textP
          rw [hf, if_pos rfl, if_pos rfl, hd]
          exact ⟨rfl, (h.moved _ (by omega)).drewN q, only_moved w g q _⟩
        · have hf : fitsT l p true most = false := by
            simp only [fitsT, Bool.true_and, decide_eq_false_iff_not]
            rintro ⟨_, _, h3⟩; omega
          exact (text_short w g A c l p h hp most hm (by omega)).mono (hno hf rfl)
      · have hf : fitsT l p true most = false := by
          simp only [fitsT, Bool.true_and, decide_eq_false_iff_not]
          rintro ⟨_, h2, _⟩; omega
        exact (text_long w g A c l p h hp most (by omega)).mono (hno hf rfl)
    · have hf : fitsT l p true most = false := by
        simp only [fitsT, Bool.true_and, decide_eq_false_iff_not]
        rintro ⟨h1, _⟩; omega
      exact (text_end w g A c l p h (by have := h.le; omega) most).mono (hno hf rfl)
end Go.Proofs.Ytlpmndljjdljmaa.By
